/- -/
import Derived.Test.YtkefajjcpcoajaaGreatDoorPkA0
import Derived.Deep.RegionHeld3
import Derived.Deep.RegionWith
import Derived.Deep.DeepCutAuto
import Derived.Test.YtkefajjcpcoajaaGreatDoorPkA12
import Derived.Test.YtkefajjcpcoajaaGreatDoorPkA14
import Derived.Test.YtkefajjcpcoajaaGreatDoorPkA16
set_option linter.all false
set_option maxRecDepth 100000
set_option maxHeartbeats 3200000
namespace Go.Proofs.YtkefajjcpcoajaaGreatDoor.Q
open Go.RowKit NatMath RatMath
theorem ZS(ao bo:Option Addr)(n c m d:Nat)(xs ys:List Int)(w:World)(h:Lst .u32 w ao n c xs)(k:Lst .u32 w bo m d ys) :
    Calls Tryz.prog 88 #[.slice ao n c,.slice bo m d] w λe w'=>e=.returned (.bool (decide (xs=ys)))/\∃q,w.drewN q=w':=by
 have a0:=h.room;have a1:=h.cap;by_cases V:n=m
 . subst V;go_in;(go_wp2);(go_loopw [13] (λi wr=>∃j q:Nat,j<=n/\i=.int .i64 j/\w.drewN q=wr/\∀t,t<j->xs.getD t 0=ys.getD t 0) (λi _=>n-(intOf i).toNat));(case atStart=>exact⟨0,0,Nat.zero_le _,rfl,rfl,λt ht=>absurd ht (by omega)⟩);case round =>
    obtain⟨j,q,hj,rfl,rfl,hz⟩:=hrel;have HZ:=jA hz;clear hz;by_cases H:j<n
    . have a8:=ix h j H;have a4:=ix k j H;obtain⟨x,HX,a2,a5,b0⟩:=h.at j H;obtain⟨y,HY,a9,a6,a7⟩:=k.at j H;by_cases G:x=y
      . subst G;(go_wp2);(go_quiet (fail));(go_wp2);go_roundw;case rel=>exact⟨j+1,_,by omega,by go_num,rfl,λt ht=>by
         by_cases e:t=j
         . rw[e,<- HX.o,<- HY.o]
         . exact HZ.o t (by omega)⟩
        case measure=>simp[intOf];omega
      . (have hb:(x == y)=false:=by simpa using G);(have a3:(x != y)=true:=by simpa using G);(go_wp2);(go_quiet (fail));(go_wp2);go_ret;refine⟨?_,dd _ _ _⟩;have:xs≠ys:=by
         intro e;apply G;rw[HX.o,HY.o,e]
        simp[this]
    . have J:xs=ys:=wz (by rw[h.len,k.len]) (λt=>by
       by_cases e:t<j
       . exact HZ.o t e
       . rw[List.getD,List.getD,List.getElem?_eq_none (by rw[h.len];omega),List.getElem?_eq_none (by rw[k.len];omega)])
      have Z:=jA J;clear J;(go_wp2);go_ret;exact⟨by simp[Z.o],_,rfl⟩
 . (have hb:((n:Int) == (m:Int))=false:=by simp;omega);have J:xs≠ys:=by
    intro e;apply V;rw[<- h.len,<- k.len,e]
   have Z:=jA J;clear J;go_in;(go_wp2);go_ret;exact⟨by simp[Z.o],0,rfl⟩
def QQ(s:Bool)(xs ys:List Int):Bool:=decide (s=(nf ⟨s,val xs,val ys⟩).s/\xs=qL (nf ⟨s,val xs,val ys⟩).p/\ys=qL (nf ⟨s,val xs,val ys⟩).q)
theorem wS{w:World}{ao:Option Addr}{n c:Nat}{xs:List Int}(h:Lst .u32 w ao n c xs)(hn:n<=1):val xs<4294967296:=by
 have m:=xI h.ok;rw[h.len] at m;rcases Nat.le_one_iff_eq_zero_or_eq_one.1 hn with e|e
 . rw[e] at m;omega
 . rw[e] at m;omega
theorem NH(s:Bool)(ao bo:Option Addr)(n c m d:Nat)(xs ys:List Int)(w:World)(h:Lst .u32 w ao n c xs)(k:Lst .u32 w bo m d ys)(hn:n<=1)(hm:m<=1) :
    Calls Tryz.prog 44 #[.agg #[.bool s,.slice ao n c,.slice bo m d]] w λe w'=>e=.returned (.bool (QQ s xs ys))/\Below w.heap.size w w':=by
 have HN:=jA (λV (hb:Below w.heap.size w V)=>Zo s ao bo n c m d xs ys V (h.below hb) (k.below hb) (by omega) (by omega) (Or.inr ⟨wS h hn,wS k hm⟩));obtain⟨v,hv⟩:=jx2 (QQ s xs ys);rw[<- hv.o];have H:=jA h;have K:=jA k;clear h k;go_in;go_wp2_with fail;have kA:=Blk.new w 32 #[.bool s,.slice ao n c,.slice bo m d];have bb:=(Below.refl w.heap.size w).alloc (Nat.le_refl _) (.cells #[.bool s,.slice ao n c,.slice bo m d] 32);obtain⟨W0,a2⟩:=jx4 (w.alloc (.cells #[.bool s,.slice ao n c,.slice bo m d] 32));rw[<- a2] at kA bb |-;clear a2;refine(HN.o W0 bb).mono ?_;rintro e V ⟨t,a1,n1,c1,b1,m1,d1,rfl,ht,o1,o2,a5,a6,B1⟩;have K1:=kA.on B1;have a0:=jA (bb.trans (B1.mono bb.size));have K2:=K1.alloc (.cells #[.bool t,.slice a1 n1 c1,.slice b1 m1 d1] 32);have F2:=Blk.new V 32 #[.bool t,.slice a1 n1 c1,.slice b1 m1 d1];have G:=a0.o.alloc a0.o.size (.cells #[.bool t,.slice a1 n1 c1,.slice b1 m1 d1] 32);have L1:=o1.lst.below ((Below.refl V.heap.size V).alloc (Nat.le_refl _) (.cells #[.bool t,.slice a1 n1 c1,.slice b1 m1 d1] 32));have L2:=o2.lst.below ((Below.refl V.heap.size V).alloc (Nat.le_refl _) (.cells #[.bool t,.slice a1 n1 c1,.slice b1 m1 d1] 32));have M1:=H.o.below G;have M2:=K.o.below G;obtain⟨y0,y1,y2⟩:=K2.cells3;obtain⟨a8,a7,a9⟩:=F2.cells3;obtain⟨P,hP⟩:=jx2 (qL (nf ⟨s,val xs,val ys⟩).p);obtain⟨Q,hQ⟩:=jx2 (qL (nf ⟨s,val xs,val ys⟩).q);rw[<- hP.o] at L1;rw[<- hQ.o] at L2;have a3:v=decide (s=t/\xs=P/\ys=Q):=by rw[hv.o,hP.o,hQ.o,ht];rfl
 have HV:=jA a3;have J:=ZS _ _ _ _ _ _ _ _ _ M1 L1;have E2:=λq=>ZS _ _ _ _ _ _ _ _ _ (M2.drewN q) (L2.drewN q)
 have BB:=jA G;clear ht o1 o2 B1 bb kA K1 K2 F2 L1 L2 M1 M2 a3 G;obtain⟨W2,Z⟩:=jx4 (V.alloc (.cells #[.bool t,.slice a1 n1 c1,.slice b1 m1 d1] 32));by_cases hs:s=t
 . subst hs;(have a4:(s == s)=true:=by simp);by_cases hx:xs=P
   . (have y:decide (xs=P)=true:=by simpa using hx);(have e2:v=decide (ys=Q):=by rw[HV.o];simp[hx]);rw[y] at J;rw[<- e2] at E2;have J:=jA J;have E2:=jA E2;clear hx y e2 Z;go_wp2_with fail;refine J.o.mono ?_;rintro e w' ⟨rfl,q,rfl⟩;have B3:=jA (below_drewN BB.o q);go_wp2_with fail;refine(E2.o q).mono ?_;rintro e w' ⟨rfl,q2,rfl⟩;go_wp2_with fail;go_ret;have B4:=below_drewN B3.o q2
     first
     | exact⟨rfl,B4⟩
     | (rw[World.drewN_drewN] at B4;exact⟨rfl,B4⟩)
   . (have y:decide (xs=P)=false:=by simpa using hx);(have e2:v=false:=by rw[HV.o];simp[hx]);rw[y] at J;have J:=jA J;subst e2;clear hx y Z E2;go_wp2_with fail;refine J.o.mono ?_;rintro e w' ⟨rfl,q,rfl⟩;go_wp2_with fail;go_ret;exact⟨rfl,below_drewN BB.o q⟩
 . (have a4:(s == t)=false:=by simpa using hs);(have e2:v=false:=by rw[HV.o];simp[hs]);subst e2;clear hs Z J E2;go_wp2_with fail;go_ret;exact⟨rfl,BB.o⟩
end Go.Proofs.YtkefajjcpcoajaaGreatDoor.Q
/-
  ratio.Text.
-/
namespace Go.Proofs.YtkefajjcpcoajaaGreatDoor.Q
open Go.RowKit NatMath RatMath
def dg(v:Nat):ByteArray:=⟨(Lib.decDigits v).toArray⟩
def tx(z:R):ByteArray:=if z.q=1 then (if z.s then ⟨#[45]⟩++dg z.p else dg z.p) else (if z.s then ⟨#[45]⟩++dg z.p else dg z.p)++(⟨#[47]⟩++dg z.q)
theorem ZT{v:Nat}(h:v<2 ^ 160):(dg v).size<=49:=by
 rw[dg,Dr];exact NG 48 v (Nat.lt_of_lt_of_le h (by decide))
theorem NI(s:Bool)(ao bo:Option Addr)(n c m d:Nat)(xs ys:List Int)(w:World)(h:Lst .u32 w ao n c xs)(k:Lst .u32 w bo m d ys)(hn:n<=1)(hm:m<=1)(htab:Tab w) :
    Calls Tryz.prog 95 #[.agg #[.bool s,.slice ao n c,.slice bo m d]] w λe w'=>e=.returned (.string (tx (nf ⟨s,val xs,val ys⟩)))/\Below w.heap.size w w':=by
 obtain⟨z,hz⟩:=jx2 (nf ⟨s,val xs,val ys⟩);have HN:=λw1 (hb:Below w.heap.size w w1)=>Zo s ao bo n c m d xs ys w1 (h.below hb) (k.below hb) (by omega) (by omega) (Or.inr ⟨wS h hn,wS k hm⟩)
 rw[<- hz.o] at HN |-;clear h k hz;obtain⟨t0,P,Q⟩:=z;dsimp only at HN;obtain⟨T,hT⟩:=jx2 (tx ⟨t0,P,Q⟩);rw[<- hT.o];have HN:=jA HN;have HT:=jA htab;clear htab;go_in;go_wp2_with fail;have kA:=Blk.new w 32 #[.bool s,.slice ao n c,.slice bo m d];have bb:=(Below.refl w.heap.size w).alloc (Nat.le_refl _) (.cells #[.bool s,.slice ao n c,.slice bo m d] 32);obtain⟨W0,b7⟩:=jx4 (w.alloc (.cells #[.bool s,.slice ao n c,.slice bo m d] 32));rw[<- b7] at kA bb |-;refine(HN.o W0 bb).mono ?_;rintro e w1 ⟨t,a1,n1,c1,Z,V,d1,rfl,ht,o1,o2,d5,d4,J⟩;have K1:=kA.on J;have H:=bb.trans (J.mono bb.size);obtain⟨q0,q1,q2,q3,q4,q5⟩:=K1.store3 (.bool t) (.slice a1 n1 c1);have h3:=o1.hi (g:=w.heap.size) kA.lt;have h4:=o2.hi (g:=w.heap.size) kA.lt;have O1:=(o1.low bb.size).put3 h3 (.bool t) (.slice a1 n1 c1) (.slice Z V d1);have O2:=(o2.low bb.size).put3 h4 (.bool t) (.slice a1 n1 c1) (.slice Z V d1);have K2:=K1.put3 (.bool t) (.slice a1 n1 c1) (.slice Z V d1);have y:=jK H (Nat.le_refl _) (.bool t) (.slice a1 n1 c1) (.slice Z V d1);obtain⟨r0,r1,r2⟩:=K2.cells3;subst ht;have b2:=jA O1;have b4:=jA O2;have b5:=jA y;have b9:=jA K2;have a8:=Ys _ _ _ _ _ O1.lst (by omega) (HT.o.below y);rw[qP] at a8;unfold put3 at r0 r1 r2 a8;have d3:=jA a8;clear o1 o2 J b7 bb kA O1 O2 y H K1 K2 h3 h4 a8;go_wp2_with fail;refine d3.o.mono ?_;obtain⟨D1,a4⟩:=jx2 (dg P);obtain⟨D2,a6⟩:=jx2 (dg Q);have b6:P<2 ^ 160:=by
  have h1:=xI (ve P);rw[qP,b2.o.len] at h1;have h2:4294967296 ^ n1<=4294967296 ^ 5:=Nat.pow_le_pow_right (by omega) (by omega);have h3:(4294967296:Nat) ^ 5<=2 ^ 160:=by decide
  omega
 have c6:Q<2 ^ 160:=by
  have h1:=xI (ve Q);rw[qP,b4.o.len] at h1;have h2:4294967296 ^ V<=4294967296 ^ 5:=Nat.pow_le_pow_right (by omega) (by omega);have h3:(4294967296:Nat) ^ 5<=2 ^ 160:=by decide
  omega
 have d0:=ZT b6;have d2:=ZT c6;rw[<- a4.o] at d0;rw[<- a6.o] at d2;clear b6 c6;rintro e w2 ⟨he,B2⟩;have a5:e=.returned (.string D1):=by rw[he,a4.o];rfl
 clear he;subst a5;have K3:=b9.o.on B2;have O1:=jA (b2.o.kept B2);have O2:=jA (b4.o.kept B2);have c8:=jA (b5.o.trans (B2.mono b5.o.size));obtain⟨y0,y1,y2⟩:=K3.cells3;have DK:Hid (Blk w2.drew w.heap.size 32 #[.bool t,.slice a1 n1 c1,.slice Z V d1]):=K3;have DL:Hid (Lst .u32 w2.drew Z V d1 (qL Q)):=O2.o.lst.drewN 1;have DB:Hid (Below w.heap.size w w2.drew):=c8.o.drew;clear K3 B2 r0 r1 r2 b2 b4 b5 b9;cases t with
 | true =>
  have b8:(({ data:=#[45] }:ByteArray)++D1).size=1+D1.size:=by rw[ByteArray.size_append];rfl
  by_cases hq:Q=1
  . (have hc:jq (Q:Int) ((Int.toNat 1:Nat):Int)=0:=by rw[hq];decide);(have a2:Hid (T=(⟨#[45]⟩++D1)):=by show _=_;rw[hT.o,a4.o];unfold tx;rw[if_pos hq];rfl);clear hq;go_wp2_with fail;go_region_held3 (λw'=>w'.cell? ⟨w.heap.size,0,none⟩=some (.bool true)/\w'.cell? ⟨w.heap.size,1,none⟩=some (.slice a1 n1 c1)/\w'.cell? ⟨w.heap.size,2,none⟩=some (.slice Z V d1)) (go_keep) (first
      | (go_at_call 149;refine(XO 1 w2.drew (by omega) (by omega)).mono ?_;rintro e v1 ⟨a3,n3,c3,b3,rfl,o3,J⟩;have A1:=DK.o.on J;obtain⟨z0,z1,z2⟩:=A1.cells3;have H:=DB.o.trans (J.mono DB.o.size);have L1:=DL.o.below J;have L3:=o3.lst)
      | (go_at_call 148;have G:=Ze Z a3 V d1 n3 c3 (qL Q) (qL (Int.toNat 1)) v1 L1 L3;rw[qP,qP,hc] at G;refine G.mono ?_;rintro e v2 ⟨rfl,q,rfl⟩;have y:=below_drewN H q;clear G))
    go_wp2_with fail;go_ret;refine⟨?_,?_⟩
    . rw[a2.o];rfl
    . first
      | exact y
      | (rw[World.drewN_drewN] at y;exact y)
  . obtain⟨g,hg⟩:=jx2 (jq (Q:Int) ((Int.toNat 1:Nat):Int));have c7:(g == 0)=false:=by
     rw[hg.o];unfold jq;have:Int.toNat 1=1:=rfl;rw[this];split
     . rfl
     . split
       . rfl
       . omega
    (have a2:Hid (T=(⟨#[45]⟩++D1)++(⟨#[47]⟩++D2)):=by show _=_;rw[hT.o,a4.o,a6.o];unfold tx;rw[if_neg hq];rfl);(have a9:(({ data:=#[47] }:ByteArray)++D2).size=1+D2.size:=by rw[ByteArray.size_append];rfl);clear hq;go_wp2_with fail;go_region_held3 (λw'=>w'.cell? ⟨w.heap.size,0,none⟩=some (.bool true)/\w'.cell? ⟨w.heap.size,1,none⟩=some (.slice a1 n1 c1)/\w'.cell? ⟨w.heap.size,2,none⟩=some (.slice Z V d1)) (go_keep) (first
      | (go_at_call 149;refine(XO 1 w2.drew (by omega) (by omega)).mono ?_;rintro e v1 ⟨a3,n3,c3,b3,rfl,o3,J⟩;have A1:=DK.o.on J;obtain⟨z0,z1,z2⟩:=A1.cells3;have H:=DB.o.trans (J.mono DB.o.size);have L1:=DL.o.below J;have L3:=o3.lst)
      | (go_at_call 148;have G:=Ze Z a3 V d1 n3 c3 (qL Q) (qL (Int.toNat 1)) v1 L1 L3;rw[qP,qP,<- hg.o] at G;refine G.mono ?_;rintro e v2 ⟨rfl,q,rfl⟩;have y:=below_drewN H q;have A2:=A1.drewN q;obtain⟨k0,k1,k2⟩:=A2.cells3;have L2:=L1.drewN q;clear G))
    have a7:Tab (v1.drewN q):=HT.o.below y;have a0:=Ys Z V d1 (qL Q) (v1.drewN q) L2 (by omega) a7;rw[qP] at a0;have b0:=jA a0;clear a0 a7;go_wp2_with fail;refine b0.o.mono ?_;rintro e v3 ⟨he,B3⟩;(have a5:e=.returned (.string D2):=by rw[he,a6.o];rfl);clear he;subst a5;go_wp2_with fail;go_ret;refine⟨?_,y.trans (B3.mono y.size)⟩;rw[a2.o];rfl
 | false =>
  have b8:(({ data:=#[45] }:ByteArray)++D1).size=1+D1.size:=by rw[ByteArray.size_append];rfl
  by_cases hq:Q=1
  . (have hc:jq (Q:Int) ((Int.toNat 1:Nat):Int)=0:=by rw[hq];decide);(have a2:Hid (T=D1):=by show _=_;rw[hT.o,a4.o];unfold tx;rw[if_pos hq];rfl);clear hq;go_wp2_with fail;go_region_held3 (λw'=>w'.cell? ⟨w.heap.size,0,none⟩=some (.bool false)/\w'.cell? ⟨w.heap.size,1,none⟩=some (.slice a1 n1 c1)/\w'.cell? ⟨w.heap.size,2,none⟩=some (.slice Z V d1)) (go_keep) (first
      | (go_at_call 149;refine(XO 1 w2.drew (by omega) (by omega)).mono ?_;rintro e v1 ⟨a3,n3,c3,b3,rfl,o3,J⟩;have A1:=DK.o.on J;obtain⟨z0,z1,z2⟩:=A1.cells3;have H:=DB.o.trans (J.mono DB.o.size);have L1:=DL.o.below J;have L3:=o3.lst)
      | (go_at_call 148;have G:=Ze Z a3 V d1 n3 c3 (qL Q) (qL (Int.toNat 1)) v1 L1 L3;rw[qP,qP,hc] at G;refine G.mono ?_;rintro e v2 ⟨rfl,q,rfl⟩;have y:=below_drewN H q;clear G))
    go_wp2_with fail;go_ret;refine⟨?_,?_⟩
    . rw[a2.o];rfl
    . first
      | exact y
      | (rw[World.drewN_drewN] at y;exact y)
  . obtain⟨g,hg⟩:=jx2 (jq (Q:Int) ((Int.toNat 1:Nat):Int));have c7:(g == 0)=false:=by
     rw[hg.o];unfold jq;have:Int.toNat 1=1:=rfl;rw[this];split
     . rfl
     . split
       . rfl
       . omega
    (have a2:Hid (T=D1++(⟨#[47]⟩++D2)):=by show _=_;rw[hT.o,a4.o,a6.o];unfold tx;rw[if_neg hq];rfl);(have a9:(({ data:=#[47] }:ByteArray)++D2).size=1+D2.size:=by rw[ByteArray.size_append];rfl);clear hq;go_wp2_with fail;go_region_held3 (λw'=>w'.cell? ⟨w.heap.size,0,none⟩=some (.bool false)/\w'.cell? ⟨w.heap.size,1,none⟩=some (.slice a1 n1 c1)/\w'.cell? ⟨w.heap.size,2,none⟩=some (.slice Z V d1)) (go_keep) (first
      | (go_at_call 149;refine(XO 1 w2.drew (by omega) (by omega)).mono ?_;rintro e v1 ⟨a3,n3,c3,b3,rfl,o3,J⟩;have A1:=DK.o.on J;obtain⟨z0,z1,z2⟩:=A1.cells3;have H:=DB.o.trans (J.mono DB.o.size);have L1:=DL.o.below J;have L3:=o3.lst)
      | (go_at_call 148;have G:=Ze Z a3 V d1 n3 c3 (qL Q) (qL (Int.toNat 1)) v1 L1 L3;rw[qP,qP,<- hg.o] at G;refine G.mono ?_;rintro e v2 ⟨rfl,q,rfl⟩;have y:=below_drewN H q;have A2:=A1.drewN q;obtain⟨k0,k1,k2⟩:=A2.cells3;have L2:=L1.drewN q;clear G))
    have a7:Tab (v1.drewN q):=HT.o.below y;have a0:=Ys Z V d1 (qL Q) (v1.drewN q) L2 (by omega) a7;rw[qP] at a0;have b0:=jA a0;clear a0 a7;go_wp2_with fail;refine b0.o.mono ?_;rintro e v3 ⟨he,B3⟩;(have a5:e=.returned (.string D2):=by rw[he,a6.o];rfl);clear he;subst a5;go_wp2_with fail;go_ret;refine⟨?_,y.trans (B3.mono y.size)⟩;rw[a2.o];rfl
end Go.Proofs.YtkefajjcpcoajaaGreatDoor.Q
/-
  ratio.Parse.
-/
namespace Go.Proofs.YtkefajjcpcoajaaGreatDoor.Q
open Go.RowKit NatMath RatMath
end Go.Proofs.YtkefajjcpcoajaaGreatDoor.Q
/-
  ratio.Parse reads back what ratio.Text writes.
-/
namespace Go.Proofs.YtkefajjcpcoajaaGreatDoor.Q
open Go.RowKit NatMath RatMath
def MY(w:World)(g:Nat)(x:R)(K:Nat):Prop:=∃ (t:Bool) (e:Option Addr) (p f:Nat) (h:Option Addr) (q i:Nat) (us vs:List Int),
  Blk w g 32 #[.bool t,.slice e p f,.slice h q i]/\R.mk t (val us) (val vs)=x/\Lst .u32 w e p f us/\Lst .u32 w h q i vs/\p<=K/\q<=K
theorem Pr(s1 s2:Bool)(a1 b1 a2 b2:Option Addr)(n1 c1 m1 d1 n2 c2 m2 d2 K:Nat)(xs1 ys1 xs2 ys2:List Int)(w:World)
    (h1:Lst .u32 w a1 n1 c1 xs1) (k1:Lst .u32 w b1 m1 d1 ys1) (h2:Lst .u32 w a2 n2 c2 xs2) (k2:Lst .u32 w b2 m2 d2 ys2) (hn1:n1<=K) (hm1:m1<=K) (hn2:n2<=K) (hm2:m2<=K) (hK:K<=400000) :
    Calls Tryz.prog 106 #[.agg #[.bool s1,.slice a1 n1 c1,.slice b1 m1 d1],.agg #[.bool s2,.slice a2 n2 c2,.slice b2 m2 d2]] w λe w'=>∃s a n c b m d,e=.returned (.tuple #[.bool s,.slice a n c,.slice b m d])/\s=(sm (dv ⟨s1,val xs1,val ys1⟩) (dv ⟨s2,val xs2,val ys2⟩)).s /\
      Own 144 .u32 w.heap.size w' a n c (qL (sm (dv ⟨s1,val xs1,val ys1⟩) (dv ⟨s2,val xs2,val ys2⟩)).p)/\Own 144 .u32 w.heap.size w' b m d (qL (sm (dv ⟨s1,val xs1,val ys1⟩) (dv ⟨s2,val xs2,val ys2⟩)).q)/\n<=2*K+4/\m<=2*K+4/\Below w.heap.size w w':=by
 obtain⟨x,hx⟩:=jx2 (dv ⟨s1,val xs1,val ys1⟩);obtain⟨y,hy⟩:=jx2 (dv ⟨s2,val xs2,val ys2⟩);have D1:=λw1 (hb:Below w.heap.size w w1)=>Qs s1 a1 b1 n1 c1 m1 d1 xs1 ys1 w1 (h1.below hb) (k1.below hb) (by omega) (by omega)
 have D2:=λw1 (hb:Below w.heap.size w w1)=>Qs s2 a2 b2 n2 c2 m2 d2 xs2 ys2 w1 (h2.below hb) (k2.below hb) (by omega) (by omega)
 rw[<- hx.o] at D1 |-;rw[<- hy.o] at D2 |-;have D1:=jA D1;have D2:=jA D2;have N1:=jA h1.block;have N2:=jA k1.block;have N3:=jA h2.block;have N4:=jA k2.block;clear h1 k1 h2 k2;go_in;go_wp2_with fail;have A0:=(Blk.new w 32 #[.bool s1,.slice a1 n1 c1,.slice b1 m1 d1]).alloc (.cells #[.bool s2,.slice a2 n2 c2,.slice b2 m2 d2] 32);have C0:=Blk.new (w.alloc (.cells #[.bool s1,.slice a1 n1 c1,.slice b1 m1 d1] 32)) 32 #[.bool s2,.slice a2 n2 c2,.slice b2 m2 d2];rw[show(w.alloc (.cells #[.bool s1,.slice a1 n1 c1,.slice b1 m1 d1] 32)).heap.size=w.heap.size+1 by simp] at C0;have bb:Below w.heap.size w ((w.alloc (.cells #[.bool s1,.slice a1 n1 c1,.slice b1 m1 d1] 32)).alloc (.cells #[.bool s2,.slice a2 n2 c2,.slice b2 m2 d2] 32)):=((Below.refl w.heap.size w).alloc (Nat.le_refl _) _).alloc (by simp) _;obtain⟨W0,e7⟩:=jx4 (((w.alloc (.cells #[.bool s1,.slice a1 n1 c1,.slice b1 m1 d1] 32)).alloc (.cells #[.bool s2,.slice a2 n2 c2,.slice b2 m2 d2] 32)));rw[<- e7] at A0 C0 bb |-;obtain⟨x0,x1,x2⟩:=A0.cells3;obtain⟨y0,y1,y2⟩:=C0.cells3;have BB:Hid (Below w.heap.size w W0.drew):=bb.drew;have AA:Hid (Blk W0.drew w.heap.size 32 #[.bool s1,.slice a1 n1 c1,.slice b1 m1 d1]):=A0;have CC:Hid (Blk W0.drew (w.heap.size+1) 32 #[.bool s2,.slice a2 n2 c2,.slice b2 m2 d2]):=C0;clear e7 A0 C0 bb;go_cut [14] (λh8 wx=>MY wx w.heap.size x (K+1)/\MY wx (w.heap.size+1) y (K+1)/\Below w.heap.size w wx)
 case first =>
  go_region_with ((first
    | (go_at_call_of 159 (Value.agg #[Value.bool s1,Value.slice a1 n1 c1,Value.slice b1 m1 d1]);refine(D1.o W0.drew BB.o).mono ?_;rintro e v1 ⟨G,e1,p1,f1,g1,q1,i1,b9,a8,rfl,b8,L1,M1,h0,g5,e8,f8,V⟩;have A1:=AA.o.on V;have C1:=CC.o.on V;have d9:=BB.o.trans (V.mono BB.o.size);obtain⟨z0,z1,z2⟩:=C1.cells3)
    | (go_at_call 159;refine(D2.o v1 d9).mono ?_;rintro e v2 ⟨t2,e2,p2,f2,g2,q2,i2,b4,a9,rfl,b6,L2,M2,h3,g0,e6,f4,B2⟩;have A2:=A1.on B2;have C2:=C1.on B2;have h7:=d9.trans (B2.mono d9.size);obtain⟨k0,k1,k2,k3,k4,k5⟩:=A2.store3 (.bool G) (.slice e1 p1 f1);obtain⟨j0,j1,j2,j3,j4,j5⟩:=(gD (g:=w.heap.size) C2 (by omega) (.bool G) (.slice e1 p1 f1) (.slice g1 q1 i1)).store3 (.bool t2) (.slice e2 p2 f2);unfold put3 at j0 j1 j2 j3 j4 j5)))
  all_goals
    go_wp2_with fail;(go_meet);have i8:W0.drew.heap.size=W0.heap.size:=rfl;have f0:=AA.o.lt;have e9:=CC.o.lt;have k7:=V.size;have X1:=((L1.below B2).put3 (e8 w.heap.size f0 (λj hj=>by have:=N1.o j hj;omega)) (.bool G) (.slice e1 p1 f1) (.slice g1 q1 i1)).put3 (e8 (w.heap.size+1) e9 (λj hj=>by have:=N1.o j hj;omega)) (.bool t2) (.slice e2 p2 f2) (.slice g2 q2 i2);have X2:=((M1.below B2).put3 (f8 w.heap.size f0 (λj hj=>by have:=N2.o j hj;omega)) (.bool G) (.slice e1 p1 f1) (.slice g1 q1 i1)).put3 (f8 (w.heap.size+1) e9 (λj hj=>by have:=N2.o j hj;omega)) (.bool t2) (.slice e2 p2 f2) (.slice g2 q2 i2);have X3:=(L2.put3 (e6 w.heap.size (by omega) (λj hj=>by have:=N3.o j hj;omega)) (.bool G) (.slice e1 p1 f1) (.slice g1 q1 i1)).put3 (e6 (w.heap.size+1) (by omega) (λj hj=>by have:=N3.o j hj;omega)) (.bool t2) (.slice e2 p2 f2) (.slice g2 q2 i2);have X4:=(M2.put3 (f4 w.heap.size (by omega) (λj hj=>by have:=N4.o j hj;omega)) (.bool G) (.slice e1 p1 f1) (.slice g1 q1 i1)).put3 (f4 (w.heap.size+1) (by omega) (λj hj=>by have:=N4.o j hj;omega)) (.bool t2) (.slice e2 p2 f2) (.slice g2 q2 i2);have Y1:=gD (g:=w.heap.size+1) (A2.put3 (.bool G) (.slice e1 p1 f1) (.slice g1 q1 i1)) (by omega) (.bool t2) (.slice e2 p2 f2) (.slice g2 q2 i2);have Y2:=(gD (g:=w.heap.size) C2 (by omega) (.bool G) (.slice e1 p1 f1) (.slice g1 q1 i1)).put3 (.bool t2) (.slice e2 p2 f2) (.slice g2 q2 i2);have Y3:=jK (g:=w.heap.size+1) (jK (g:=w.heap.size) h7 (Nat.le_refl _) (.bool G) (.slice e1 p1 f1) (.slice g1 q1 i1)) (Nat.le_succ _) (.bool t2) (.slice e2 p2 f2) (.slice g2 q2 i2);exact⟨⟨G,e1,p1,f1,g1,q1,i1,b9,a8,Y1,b8,X1,X2,by omega,by omega⟩,⟨t2,e2,p2,f2,g2,q2,i2,b4,a9,Y2,b6,X3,X4,by omega,by omega⟩,Y3⟩
 case rest =>
  obtain⟨⟨G,e1,p1,f1,g1,q1,i1,b9,a8,A,b8,L1,M1,h0,g5⟩,⟨t2,e2,p2,f2,g2,q2,i2,b4,a9,C,b6,L2,M2,h3,g0⟩,bb⟩:=hcut;obtain⟨x0,x1,x2⟩:=A.cells3;obtain⟨y0,y1,y2⟩:=C.cells3;go_wp2_with fail;have e4:Hid (Lst .u32 wc.drew e1 p1 f1 b9):=L1.drewN 1;have d5:Hid (Lst .u32 wc.drew g1 q1 i1 a8):=M1.drewN 1;have c8:Hid (Lst .u32 wc.drew e2 p2 f2 b4):=L2.drewN 1;have e3:Hid (Lst .u32 wc.drew g2 q2 i2 a9):=M2.drewN 1;have DA:Hid (Blk wc.drew w.heap.size 32 #[.bool G,.slice e1 p1 f1,.slice g1 q1 i1]):=A;have DC:Hid (Blk wc.drew (w.heap.size+1) 32 #[.bool t2,.slice e2 p2 f2,.slice g2 q2 i2]):=C;have DB:Hid (Below w.heap.size w wc.drew):=bb.drew;clear L1 M1 L2 M2 A C bb;go_region_held3 (λw'=>w'.cell? ⟨w.heap.size,0,none⟩=some (.bool G)/\w'.cell? ⟨w.heap.size,1,none⟩=some (.slice e1 p1 f1)/\w'.cell? ⟨w.heap.size,2,none⟩=some (.slice g1 q1 i1)/\w'.cell? ⟨w.heap.size+1,0,none⟩=some (.bool t2)/\w'.cell? ⟨w.heap.size+1,1,none⟩=some (.slice e2 p2 f2)/\w'.cell? ⟨w.heap.size+1,2,none⟩=some (.slice g2 q2 i2)) (go_keep) (first
    | (go_at_call_of 160 (Value.slice e1 p1 f1);refine(Df _ _ _ _ _ _ b9 a9 wc.drew e4.o e3.o (by omega) (by omega)).mono ?_;rintro e v1 ⟨a3,n3,c3,rfl,i7,o3,V⟩;have A1:=DA.o.on V;have C1:=DC.o.on V;obtain⟨z0,z1,z2⟩:=A1.cells3;obtain⟨g7,h5,h6⟩:=C1.cells3)
    | (go_at_call 160;refine(Df _ _ _ _ _ _ b4 a8 v1 (c8.o.below V) (d5.o.below V) (by omega) (by omega)).mono ?_;rintro e v2 ⟨a4,n4,c4,rfl,i5,o4,B2⟩;have A2:=A1.on B2;have C2:=C1.on B2;obtain⟨k0,k1,k2⟩:=A2.cells3;obtain⟨d6,d7,d4⟩:=C2.cells3))
  have g6:=jA ((e4.o.below V).below B2);have f3:=jA ((d5.o.below V).below B2);have h4:=jA ((c8.o.below V).below B2);have f5:=jA ((e3.o.below V).below B2);have EX:=jA (o3.kept B2);have EY:=jA o4;have f6:Below wc.drew.heap.size wc.drew v2:=V.trans (B2.mono V.size);have e0:=jA (DB.o.trans (f6.mono DB.o.size));have A3:=A2;have d0:Hid (wc.drew.heap.size<=v1.heap.size/\w.heap.size<=wc.drew.heap.size):=⟨V.size,DB.o.size⟩;clear A1 C1 z0 z1 z2 g7 h5 h6 o3 o4 V B2 f6 e4 d5 c8 e3 DA DC DB;go_wp2_with fail;refine(Df _ _ _ _ _ _ a8 a9 v2 f3.o f5.o (by omega) (by omega)).mono ?_;rintro e v3 ⟨a5,n5,c5,rfl,i4,o5,B3⟩;have F1:=jA ((EX.o.kept B3).low d0.o.2);have F2:=jA ((EY.o.kept B3).low (Nat.le_trans d0.o.2 d0.o.1));have F3:=jA (o5.low e0.o.size);have b0:=jA (e0.o.trans (B3.mono e0.o.size));have A4:=A2.on B3;have C4:=C2.on B3;obtain⟨k0,k1,k2⟩:=A4.cells3;obtain⟨d6,d7,d4⟩:=C4.cells3;clear A2 C2 A3 EX EY o5 B3 g6 f3 h4 f5;obtain⟨P,hP⟩:=jx2 (val b9*val a9);obtain⟨S,hS⟩:=jx2 (val b4*val a8);obtain⟨D,hD⟩:=jx2 (val a8*val a9);rw[<- hP.o] at F1;rw[<- hS.o] at F2;rw[<- hD.o] at F3;by_cases hs:G=t2
  . subst hs;have Z:sm x y=⟨G,P+S,D⟩:=by
     rw[<- b8,<- b6,hP.o,hS.o,hD.o];unfold sm;rw[if_pos rfl]
    have b5:=jA Z;clear Z;(have f7:(G == G)=true:=by simp);have H1:Hid (Lst .u32 v3.drew a3 n3 c3 (qL P)):=F1.o.lst.drewN 1;have H2:Hid (Lst .u32 v3.drew a4 n4 c4 (qL S)):=F2.o.lst.drewN 1;have H3:Hid (Own 144 .u32 w.heap.size v3.drew a5 n5 c5 (qL D)):=F3.o.drewN 1;have HB:Hid (Below w.heap.size w v3.drew):=b0.o.drew;have HA:Hid (Blk v3.drew w.heap.size 32 #[.bool G,.slice e1 p1 f1,.slice g1 q1 i1]):=A4;have HC:Hid (Blk v3.drew (w.heap.size+1) 32 #[.bool G,.slice e2 p2 f2,.slice g2 q2 i2]):=C4;clear A4 C4;go_wp2_with fail;go_region_held3 (λw'=>w'.cell? ⟨w.heap.size,0,none⟩=some (.bool G)/\w'.cell? ⟨w.heap.size+1,0,none⟩=some (.bool G)) (go_keep) (first
      | (go_at_call 161;refine(Pl _ _ _ _ _ _ _ _ v3.drew H1.o H2.o (by omega) (by omega)).mono ?_;rintro e v4 ⟨a6,n6,c6,rfl,g8,o6,J⟩;have A5:=HA.o.on J;have C5:=HC.o.on J;obtain⟨l0,l1,l2⟩:=A5.cells3;obtain⟨e5,d3,d8⟩:=C5.cells3))
    go_wp2_with fail;(go_ret3);rw[qP,qP] at o6;rw[b5.o];exact⟨G,a6,n6,c6,a5,n5,c5,rfl,rfl,o6.low HB.o.size,H3.o.kept J,by omega,by omega,HB.o.trans (J.mono HB.o.size)⟩
  . (have f7:(G == t2)=false:=by simpa using hs);have H:=MW a3 a4 n3 c3 n4 c4 (qL P) (qL S) v3 F1.o.lst F2.o.lst (by omega);rw[qP,qP] at H;by_cases a0:S<=P
    . (have hd:decide (S<=P)=true:=by simpa using a0);rw[hd] at H;have Z:sm x y=⟨G,P-S,D⟩:=by
       rw[<- b8,<- b6,hP.o,hS.o,hD.o];unfold sm;rw[if_neg hs,if_pos (by rw[hP.o,hS.o] at a0;exact a0)]
      have b5:=jA Z;have H:=jA H;clear Z hd a0 hs;go_wp2_with fail;refine H.o.mono ?_;rintro e v4 ⟨a6,n6,c6,rfl,o6,J⟩;have A5:=A4.on J;have C5:=C4.on J;obtain⟨l0,l1,l2⟩:=A5.cells3;obtain⟨e5,d3,d8⟩:=C5.cells3;(have g8:n6<=n3:=by rw[<- o6.len,<- F1.o.len];exact xJ (Nat.sub_le _ _));have O6:=jA (o6.low b0.o.size);have O5:=jA (F3.o.kept J);have b7:=jA (b0.o.trans (J.mono b0.o.size));clear A4 C4 k0 k1 k2 d6 d7 d4 o6 J H;go_wp2_with fail;(go_ret3);rw[b5.o];exact⟨G,a6,n6,c6,a5,n5,c5,rfl,rfl,O6.o,O5.o,by omega,by omega,b7.o⟩
    . (have hd:decide (S<=P)=false:=by simpa using a0);rw[hd] at H;have Z:sm x y=⟨t2,S-P,D⟩:=by
       rw[<- b8,<- b6,hP.o,hS.o,hD.o];unfold sm;rw[if_neg hs,if_neg (by rw[hP.o,hS.o] at a0;exact a0)]
      have b5:=jA Z;have H:=jA H;clear Z hd a0 hs;go_wp2_with fail;refine H.o.mono ?_;rintro e v4 ⟨a6,n6,c6,rfl,o6,J⟩;have A5:=A4.on J;have C5:=C4.on J;obtain⟨l0,l1,l2⟩:=A5.cells3;obtain⟨e5,d3,d8⟩:=C5.cells3;have b7:=jA (b0.o.trans (J.mono b0.o.size));have b3:=MW a4 a3 n4 c4 n3 c3 (qL S) (qL P) v4 (F2.o.kept J).lst (F1.o.kept J).lst (by omega);rw[qP,qP] at b3;obtain⟨bq,g9⟩:=jx2 (decide (P<=S));rw[<- g9.o] at b3;have b3:=jA b3;have O5:=jA (F3.o.kept J);have g4:=jA A5;have f9:=jA C5;clear A4 C4 k0 k1 k2 d6 d7 d4 o6 J H A5 C5;go_wp2_with fail;refine b3.o.mono ?_;rintro e v5 ⟨a7,n7,c7,rfl,o7,B5⟩;have A6:=g4.o.on B5;have C6:=f9.o.on B5;obtain⟨i0,k6,i3⟩:=A6.cells3;obtain⟨i6,h9,k9⟩:=C6.cells3;(have i9:n7<=n4:=by rw[<- o7.len,<- F2.o.len];exact xJ (Nat.sub_le _ _));have O7:=jA (o7.low b7.o.size);have O8:=jA (O5.o.kept B5);have g3:=jA (b7.o.trans (B5.mono b7.o.size));clear A6 C6 l0 l1 l2 e5 d3 d8 o7 B5 b3;go_wp2_with fail;(go_ret3);rw[b5.o];exact⟨t2,a7,n7,c7,a5,n5,c5,rfl,rfl,O7.o,O8.o,by omega,by omega,g3.o⟩
end Go.Proofs.YtkefajjcpcoajaaGreatDoor.Q
/-
  ratio.Add,ratio.Mul,ratio.Div,ratio.Cmp,ratio.Floor.
-/
namespace Go.Proofs.YtkefajjcpcoajaaGreatDoor.Q
open Go.RowKit NatMath RatMath
end Go.Proofs.YtkefajjcpcoajaaGreatDoor.Q
/-
  ratio.Cmp,ratio.Div,ratio.Floor.
-/
namespace Go.Proofs.YtkefajjcpcoajaaGreatDoor.Q
open Go.RowKit NatMath RatMath
theorem Ds(s1 s2:Bool)(a1 b1 a2 b2:Option Addr)(n1 c1 m1 d1 n2 c2 m2 d2 K:Nat)(xs1 ys1 xs2 ys2:List Int)(w:World)
    (h1:Lst .u32 w a1 n1 c1 xs1) (k1:Lst .u32 w b1 m1 d1 ys1) (h2:Lst .u32 w a2 n2 c2 xs2) (k2:Lst .u32 w b2 m2 d2 ys2) (hn1:n1<=K) (hm1:m1<=K) (hn2:n2<=K) (hm2:m2<=K) (hK:K<=400000) :
    Calls Tryz.prog 54 #[.agg #[.bool s1,.slice a1 n1 c1,.slice b1 m1 d1],.agg #[.bool s2,.slice a2 n2 c2,.slice b2 m2 d2]] w λe w'=>e=.returned (.int .i64 (RatMath.cmp ⟨s1,val xs1,val ys1⟩ ⟨s2,val xs2,val ys2⟩))/\Below w.heap.size w w':=by
 have HS:=λw1 (hb:Below w.heap.size w w1)=>Pr s1 (!s2) a1 b1 a2 b2 n1 c1 m1 d1 n2 c2 m2 d2 K xs1 ys1 xs2 ys2 w1 (h1.below hb) (k1.below hb) (h2.below hb) (k2.below hb) hn1 hm1 hn2 hm2 hK
 obtain⟨z,hz⟩:=jx2 (sm (dv ⟨s1,val xs1,val ys1⟩) (dv ⟨!s2,val xs2,val ys2⟩));have H:RatMath.cmp ⟨s1,val xs1,val ys1⟩ ⟨s2,val xs2,val ys2⟩=if z.p=0 then 0 else if z.s then -1 else 1:=by rw[hz.o];rfl
 rw[<- hz.o] at HS;have HS:=jA HS;have HC:=jA H;obtain⟨g,hg⟩:=jx2 (RatMath.cmp ⟨s1,val xs1,val ys1⟩ ⟨s2,val xs2,val ys2⟩);rw[<- hg.o] at HC |-;clear h1 k1 h2 k2 H;go_in;go_wp2_with fail;obtain⟨W0,a0,kA,kB,bb⟩:=Yy w 32 #[.bool s1,.slice a1 n1 c1,.slice b1 m1 d1] #[.bool s2,.slice a2 n2 c2,.slice b2 m2 d2];rw[<- a0];have DA:Hid (Blk W0.drew w.heap.size 32 #[.bool s1,.slice a1 n1 c1,.slice b1 m1 d1]):=kA;have DC:Hid (Blk W0.drew (w.heap.size+1) 32 #[.bool s2,.slice a2 n2 c2,.slice b2 m2 d2]):=kB;have DB:Hid (Below w.heap.size w W0.drew):=bb.drew;obtain⟨y0,y1,y2⟩:=kA.cells3;obtain⟨b3,a9,b4⟩:=kB.cells3;clear kA kB bb a0;go_region_held3 (λw'=>w'.cell? ⟨w.heap.size,0,none⟩=some (.bool s1)/\w'.cell? ⟨w.heap.size,1,none⟩=some (.slice a1 n1 c1)/\w'.cell? ⟨w.heap.size,2,none⟩=some (.slice b1 m1 d1)/\w'.cell? ⟨w.heap.size+1,0,none⟩=some (.bool s2)/\w'.cell? ⟨w.heap.size+1,1,none⟩=some (.slice a2 n2 c2)/\w'.cell? ⟨w.heap.size+1,2,none⟩=some (.slice b2 m2 d2)) (go_keep) (first
   | (go_at_call 107;refine(Dq s2 a2 b2 n2 c2 m2 d2 W0.drew).mono ?_;rintro e w1 ⟨rfl,B1⟩;have A1:=DA.o.on B1;have C1:=DC.o.on B1;obtain⟨z0,z1,z2⟩:=A1.cells3;obtain⟨a4,a7,a8⟩:=C1.cells3;have J:=jA (DB.o.trans (B1.mono DB.o.size)))
   | (go_at_call 106;refine(HS.o w1 J.o).mono ?_;rintro e w2 ⟨s,a,n,c,b,m,d,rfl,hs,o1,o2,hn,hm,y⟩;have A2:=A1.on y;have C2:=C1.on y;obtain⟨k0,k1,k2⟩:=A2.cells3;obtain⟨b0,a5,a6⟩:=C2.cells3;have a3:=jA hs;clear hs))
 have hs:=a3.o;have V:=jA (J.o.trans (y.mono J.o.size));have G:=gX a n c (qL z.p) w2 o1.lst (by omega);rw[qP] at G;by_cases Z:z.p=0
 . (have hd:decide (z.p=0)=true:=by simpa using Z);rw[hd] at G;(have e0:g=0:=by rw[HC.o,if_pos Z]);have G:=jA G;clear hd Z o1 o2 y hs;subst e0;go_wp2_with fail;refine G.o.mono ?_;rintro e w' ⟨rfl,rfl⟩;go_wp2_with fail;go_ret;exact⟨rfl,V.o⟩
 . (have hd:decide (z.p=0)=false:=by simpa using Z);rw[hd] at G;have G:=jA G;(have e0:g=if s then -1 else 1:=by rw[HC.o,if_neg Z,hs]);clear hd Z o1 o2 y hs;cases s with
   | true =>
    have e1:g=-1:=e0;subst e1;clear e0;go_wp2_with fail;refine G.o.mono ?_;rintro e w' ⟨rfl,rfl⟩;go_wp2_with fail;go_ret;exact⟨rfl,V.o⟩
   | false =>
    have e1:g=1:=e0;subst e1;clear e0;go_wp2_with fail;refine G.o.mono ?_;rintro e w' ⟨rfl,rfl⟩;go_wp2_with fail;go_ret;exact⟨rfl,V.o⟩
theorem Yz{n:Int}(h:n<0)(h0 : -9223372036854775808<=n):IntKind.u64.wrap n=n+18446744073709551616:=by
 rw[IntKind.wrap_u64];omega
theorem Qt(n:Int)(w:World)(h0 : -9223372036854775808<=n)(h1:n<=9223372036854775807) :
    Calls Tryz.prog 179 #[.int .i64 n] w λe w'=>∃a n' c',n'<=2/\e=.returned (.slice a n' c')/\Own 144 .u32 w.heap.size w' a n' c' (qL n.natAbs)/\Below w.heap.size w w':=by
 obtain⟨m,H⟩:∃m:Nat,Hid (m=n.natAbs):=⟨_,rfl⟩;have a0:m<=9223372036854775808:=by rw[H.o];omega
 have G:=XO (m:Int) w (by omega) (by omega);rw[Int.toNat_natCast] at G;rw[<- H.o];have G:=jA G;by_cases V:n<0
 . (have hd:decide (n<0)=true:=by simpa using V);have e1:=Yz V h0;(have J:n=-(m:Int):=by rw[H.o];omega);subst J;go_in;go_wp2_with fail;rw[show IntKind.u64.wrap (-(-(m:Int)+18446744073709551616))=(m:Int) by rw[IntKind.wrap_u64];omega];refine G.o.mono ?_;rintro e Z ⟨a,n',c',y,rfl,o,b⟩;go_wp2_with fail;go_ret;exact⟨a,n',c',y,rfl,o,b⟩
 . (have hd:decide (n<0)=false:=by simpa using V);(have J:n=(m:Int):=by rw[H.o];omega);subst J;go_in;go_wp2_with fail;refine G.o.mono ?_;rintro e Z ⟨a,n',c',y,rfl,o,b⟩;go_wp2_with fail;go_ret;exact⟨a,n',c',y,rfl,o,b⟩
theorem Mv(x y:Int)(w:World)(x0 : -9223372036854775808<=x)(x1:x<=9223372036854775807)(y0 : -9223372036854775808<=y)(y1:y<=9223372036854775807)(hx4:x.natAbs<4294967296)(hy4:y.natAbs<4294967296) :
    Calls Tryz.prog 122 #[.int .i64 x,.int .i64 y] w λe w'=>∃s a n c b m d,e=.returned (.agg #[.bool s,.slice a n c,.slice b m d])/\s=(nf ⟨decide (x<0) != decide (y<0),x.natAbs,y.natAbs⟩).s/\Own 144 .u32 w.heap.size w' a n c (qL (nf ⟨decide (x<0) != decide (y<0),x.natAbs,y.natAbs⟩).p)/\Own 144 .u32 w.heap.size w' b m d (qL (nf ⟨decide (x<0) != decide (y<0),x.natAbs,y.natAbs⟩).q)/\n<=2/\m<=3/\Below w.heap.size w w':=by
 obtain⟨sg,b0⟩:=jx2 ((decide (x<0) != decide (y<0)));rw[<- b0.o];have a9:(!(decide (x<0) == decide (y<0)))=sg:=b0.o.symm;go_in;go_wp2_with fail;have kZ:=Blk.new w 32 #[.bool false,.slice none 0 0,.slice none 0 0];have bb:=(Below.refl w.heap.size w).alloc (Nat.le_refl _) (.cells #[.bool false,.slice none 0 0,.slice none 0 0] 32);obtain⟨W0,b1⟩:=jx4 (w.alloc (.cells #[.bool false,.slice none 0 0,.slice none 0 0] 32));rw[<- b1] at kZ bb |-;clear b1;refine(Qt x W0 x0 x1).mono ?_;rintro e w1 ⟨a1,n1,c1,b5,rfl,o1,B1⟩;have K1:=kZ.on B1;have a5:=bb.trans (B1.mono bb.size);go_wp2_with fail;refine(Qt y w1 y0 y1).mono ?_;rintro e w2 ⟨a2,n2,c2,b7,rfl,o2,B2⟩;have K2:=K1.on B2;have G:=a5.trans (B2.mono a5.size);have a6:=Dp sg a1 a2 n1 c1 n2 c2 _ _ w2 (o1.kept B2).lst o2.lst (by omega) (by omega) (Or.inr ⟨by rw[qP];exact hx4,by rw[qP];exact hy4⟩);rw[qP,qP] at a6;have HM:=jA a6;clear a6 o1 o2 B1 B2 K1 kZ bb a5;go_wp2_with fail;try rw[a9]
 refine HM.o.mono ?_;rintro e w3 ⟨H,V,J,c3,b3,Z,d3,rfl,a8,o3,o4,b8,b6,a7⟩;have K3:=K2.on a7;have b4:=G.trans (a7.mono G.size);have h3:=o3.hi (g:=w.heap.size) K2.lt;have h4:=o4.hi (g:=w.heap.size) K2.lt;have O3:=jA (o3.low G.size);have O4:=jA (o4.low G.size);obtain⟨q0,q1,q2,q3,q4,q5⟩:=K3.store3 (.bool H) (.slice V J c3);have b2:=jA a8;clear a8 a7 o3 o4 G K2 HM;go_wp2_with fail;have a4:=K3.put3 (.bool H) (.slice V J c3) (.slice b3 Z d3);have a0:=jK b4 (Nat.le_refl _) (.bool H) (.slice V J c3) (.slice b3 Z d3);have p3:=O3.o.put3 h3 (.bool H) (.slice V J c3) (.slice b3 Z d3);have p4:=O4.o.put3 h4 (.bool H) (.slice V J c3) (.slice b3 Z d3);obtain⟨W,hW⟩:=jx4 (put3 w3 w.heap.size (.bool H) (.slice V J c3) (.slice b3 Z d3));change bodyPost _ _ _ _ _ (put3 w3 w.heap.size (.bool H) (.slice V J c3) (.slice b3 Z d3));rw[<- hW] at a4 a0 p3 p4 |-;obtain⟨r0,r1,r2⟩:=a4.cells3;refine bodyPost_ret (v:=.agg #[.bool H,.slice V J c3,.slice b3 Z d3]) (by simp[results,Tryz.results122,go_sem,r0,r1,r2]) rfl ?_;exact⟨H,V,J,c3,b3,Z,d3,rfl,b2.o,p3,p4,by omega,by omega,a0⟩
end Go.Proofs.YtkefajjcpcoajaaGreatDoor.Q
/-
  electionlaw02.Awake.
-/
namespace Go.Proofs.YtkefajjcpcoajaaGreatDoor.Q
open Go.RowKit NatMath RatMath
