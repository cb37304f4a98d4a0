/- -/
import Derived.Test.YtkefajjcpcoajaaGreatDoorPkA0
import Derived.Lib.LazyBuf
import Derived.Test.YtkefajjcpcoajaaGreatDoorPkA27
import Derived.Test.YtkefajjcpcoajaaGreatDoorPkA28
set_option linter.all false
set_option maxRecDepth 100000
set_option maxHeartbeats 25600000
namespace Go.Proofs.YtkefajjcpcoajaaGreatDoor
open Go.RowKit Lx
theorem NX(K:ByteArray)(vs:List (List UInt8))(vo:Option Addr)(vn vc:Nat)(l:Int)(D:List Value)(f:Nat×Int)(g:Nat)(w:World)(hv:StrL qU w vo vn vc vs)(hsz:∀v∈vs,v.length<=1000000)(h:St w g D f) :
    Calls Tryz.prog 128 #[.pointer (some ⟨g,0,none⟩),vF K vo vn vc l] w λx w'=>∃ (uo:Option Addr) (un uc:Nat) (dO:Option Addr) (dn dc:Nat) (N M:List Int),x=.returned (.agg #[.bool false,.slice uo un uc,.slice dO dn dc])/\St w' g D (z7 f (jt vs jl) l)/\w.grownBy w' (some g)/\IntL .u32 (qS w.heap.size [144]) w' uo un uc N/\IntL .u32 (qS w.heap.size [144]) w' dO dn dc M/\(jt vs jl=0->N=J1 (vD vs)/\M=J2 (vD vs)):=by
 show Calls Tryz.prog 128 #[.pointer (some ⟨g,0,none⟩),.agg #[.string K,.slice vo vn vc,.int .i64 l]] w _;obtain⟨y,e1,b6,b4,hz⟩:=qG w 63 [.string K,.slice vo vn vc,.int .i64 l];obtain⟨U,e2,d2,a9,d5⟩:=qG y 32 [.bool false,.slice none 0 0,.slice none 0 0];have AF:=b6.kept a9;have BU:=b4.trans (a9.mono b4.size);obtain⟨y0,y1,y2⟩:=AF.c3;have hg:=jA h.lt;have e0:Hid (w.heap.size≠g):=λe=>by have:=hg.o;omega
 have H:Hid (y.heap.size≠g):=λe=>by have:=hg.o;omega
 have a2:Hid (w.heap.size<=y.heap.size):=by show _<=_;omega
 have d6:=jA d2;have GU:=jA (zH BU (some g));have e4:Hid (w.heap.size<=U.heap.size):=BU.size;have HV:Hid (jC 181 #[.pointer (some ⟨g,0,none⟩),.agg #[.string K,.slice vo vn vc,.int .i64 l]] U λx w'=>x=.returned (.string (stg (vD vs)))/\St w' g D (z7 f (jt vs λ_=>0) l)/\U.grownBy w' (some g)):=gl K vs vo vn vc l D f g U (StrL.below hv BU) (h.keep BU);have hs:=Zw hsz;obtain⟨V,a4⟩:∃X,X=vD vs:=⟨_,rfl⟩;have hO:Hid (z7 (z7 f (jt vs λ_=>0) l) (jl V) l=z7 f (jt vs jl) l):=by show _=_;rw[a4];exact NU f vs jl l
 obtain⟨F1,b8⟩:∃X,X=z7 f (jt vs λ_=>0) l:=⟨_,rfl⟩;have hZ:Hid (jt vs jl=0->jl V=0):=λe=>by rw[a4];exact(vS e).2
 rw[<- a4] at HV hs |-;rw[<- b8] at HV hO;rw[<- hO.o];have HN:Hid (∀ (s:ByteArray) W,s.size<=1000000->Calls Tryz.prog 182 #[.string s] W λe w'=>∃n:Int,e=.returned (.tuple #[.int .i64 n,.bool (zg (bys s))])/\W=w'/\(zg (bys s)=true->n=((zz (bys s):Nat):Int)) /\ -1000000000000000000<=n/\n<=1000000000000000000):=λs W hs=>Ka s W hs
 obtain⟨s,b5⟩:∃X,Hid (stg V=X):=⟨_,rfl⟩;have a3:Hid (bys s=V):=by show _=_;rw[<- b5.o,zL]
 have e9:s.size<=1000000:=by rw[<- b5.o,kt];exact hs
 rw[b5.o] at HV;clear h hv hsz hs b6 d2 AF BU b4 a9 hz d5 b8 hO a4;go_in;go_wp2_with (go_at_call 181;(with_reducible refine HV.o.mono ?_);rintro x w1 ⟨rfl,S1,G1⟩);have SS:=jA S1;have GG:=jA G1;have z2:=xV y2 G1 e0.o;have A1:=jA (kl d6.o G1 H.o);clear S1 G1 y0 y1 y2 HV;go_loop [6] (λi=>∃j:Nat,j<=s.size/\i=.int .i64 j/\Hid (∀c∈V.take j,c.toNat≠47)) (λi=>s.size-(intOf i).toNat)
 case atStart=>exact⟨0,Nat.zero_le _,rfl,λc hc=>by simp at hc⟩
 case round =>
  obtain⟨j,hj,rfl,hI⟩:=hrel;by_cases b7:j<s.size;have d1:(j:Int)<(s.size:Int):=by omega
  obtain⟨d,hd,x1⟩:=ZH s j b7;rw[a3.o] at hd;by_cases a1:d.toNat=47;obtain⟨m,hm⟩:∃m:Nat,Hid (d.toNat=m):=⟨_,rfl⟩;have hR:=jA (Gn hd.o a1 hI.o);have hA:=jA (W9 hd.o a1 hI.o);have a8:((d.toNat:Int) != 47)=false:=by rw[a1];rfl
  rw[hm.o] at x1 a8;have p1:Hid (bys (s.extract 0 j)=V.take j):=by show _=_;rw[wV,a3.o]
  have p2:Hid (bys (s.extract (j+1) s.size)=V.drop (j+1)):=by show _=_;rw[gd,a3.o]
  have q1:(s.extract 0 j).size<=1000000:=by rw[<- zR,p1.o,List.length_take];omega
  have q2:(s.extract (j+1) s.size).size<=1000000:=by rw[<- zR,p2.o,List.length_drop];have:=zR s;rw[a3.o] at this;omega
  have N1:=jA (HN.o (s.extract 0 j) w1 q1);have N2:=jA (HN.o (s.extract (j+1) s.size) w1 q2);rw[p1.o] at N1;rw[p2.o] at N2;obtain⟨SA,e8⟩:∃X,Hid (s.extract 0 j=X):=⟨_,rfl⟩;obtain⟨SB,e7⟩:∃X,Hid (s.extract (j+1) s.size=X):=⟨_,rfl⟩;obtain⟨a,ha⟩:∃X,Hid (zz (V.take j)=X):=⟨_,rfl⟩;obtain⟨b,hb⟩:∃X,Hid (zz (V.drop (j+1))=X):=⟨_,rfl⟩;have la:Hid (zg (V.take j)=true->a<=999999):=λe=>by rw[<- ha.o];exact uh e
  have lb:Hid (zg (V.drop (j+1))=true->b<=999999):=λe=>by rw[<- hb.o];exact uh e
  obtain⟨ba,b3⟩:∃X,Hid (zg (V.take j)=X):=⟨_,rfl⟩;obtain⟨bb,b0⟩:∃X,Hid (zg (V.drop (j+1))=X):=⟨_,rfl⟩;rw[ha.o,b3.o] at N1;rw[hb.o,b0.o] at N2;rw[b3.o] at la;rw[b0.o] at lb;rw[ha.o,hb.o,b3.o,b0.o] at hR;clear a1 b7 p1 p2 q1 q2;cases ba
  . (have G:jl V=5:=by rw[hR.o];rfl);have HF:=jA (jO D F1 5 l g w1 SS.o (by decide) 5 rfl);go_wp2_with (first
      | (go_at_call 182;(with_reducible refine N1.o.mono ?_);rintro x w2 ⟨n1,rfl,rfl,_,_,_⟩)
      | (go_at_call 182;(with_reducible refine N2.o.mono ?_);rintro x w2 ⟨n2,rfl,rfl,_,_,_⟩)
      | (go_at_call 30;(with_reducible refine HF.o.mono ?_);rintro x w3 ⟨rfl,S3,G3⟩;obtain⟨Z,m5,a0,J,c0,c1,c2,c3,c4,c5⟩:=jY (kl A1.o G3 H.o) (.bool false) (.slice none 0 0) (.slice none 0 0);have r0:Z.cell? ⟨y.heap.size,0,none⟩=some (.bool false):=J.cell 0;have r1:Z.cell? ⟨y.heap.size,1,none⟩=some (.slice none 0 0):=J.cell 1;have r2:Z.cell? ⟨y.heap.size,2,none⟩=some (.slice none 0 0):=J.cell 2)
      | fail)
    (have GZ:w3.grownBy Z (some y.heap.size):=by rw[a0.o];exact qC (qC (qM w3 y.heap.size 0 _) (qM _ y.heap.size 1 _)) (qM _ y.heap.size 2 _));refine bodyPost_ret (v:=.agg #[.bool false,.slice none 0 0,.slice none 0 0]) (by simp[results,Tryz.results128,go_sem,r0,r1,r2]) rfl ?_;exact⟨none,0,0,none,0,0,[],[],rfl,by rw[G];exact S3.gr GZ (λe=>H.o e.symm),yy (qC GU.o (qC GG.o G3)) GZ a2.o,Row.nil _ _ _,Row.nil _ _ _,λe=>absurd (hZ.o e) (by rw[G];decide)⟩
  cases bb
  . (have G:jl V=5:=by rw[hR.o];rfl);have HF:=jA (jO D F1 5 l g w1 SS.o (by decide) 5 rfl);go_wp2_with (first
      | (go_at_call 182;(with_reducible refine N1.o.mono ?_);rintro x w2 ⟨n1,rfl,rfl,_,_,_⟩)
      | (go_at_call 182;(with_reducible refine N2.o.mono ?_);rintro x w2 ⟨n2,rfl,rfl,_,_,_⟩)
      | (go_at_call 30;(with_reducible refine HF.o.mono ?_);rintro x w3 ⟨rfl,S3,G3⟩;obtain⟨Z,m5,a0,J,c0,c1,c2,c3,c4,c5⟩:=jY (kl A1.o G3 H.o) (.bool false) (.slice none 0 0) (.slice none 0 0);have r0:Z.cell? ⟨y.heap.size,0,none⟩=some (.bool false):=J.cell 0;have r1:Z.cell? ⟨y.heap.size,1,none⟩=some (.slice none 0 0):=J.cell 1;have r2:Z.cell? ⟨y.heap.size,2,none⟩=some (.slice none 0 0):=J.cell 2)
      | fail)
    (have GZ:w3.grownBy Z (some y.heap.size):=by rw[a0.o];exact qC (qC (qM w3 y.heap.size 0 _) (qM _ y.heap.size 1 _)) (qM _ y.heap.size 2 _));refine bodyPost_ret (v:=.agg #[.bool false,.slice none 0 0,.slice none 0 0]) (by simp[results,Tryz.results128,go_sem,r0,r1,r2]) rfl ?_;exact⟨none,0,0,none,0,0,[],[],rfl,by rw[G];exact S3.gr GZ (λe=>H.o e.symm),yy (qC GU.o (qC GG.o G3)) GZ a2.o,Row.nil _ _ _,Row.nil _ _ _,λe=>absurd (hZ.o e) (by rw[G];decide)⟩
  have a5:=la.o rfl;have a7:=lb.o rfl;replace hR:Hid (jl V=if b=0||1000*a<b||b<2*a then 4 else 0):=hR.o;by_cases k1:b=0;have G:jl V=4:=by rw[hR.o,k1];rfl
  have t1:((b:Int) == 0)=true:=by rw[k1];rfl
  subst k1
  rotate_left
  have t1:((b:Int) == 0)=false:=by simp;omega
  by_cases k2:1000*a<b;have G:jl V=4:=by rw[hR.o];simp[k2]
  have t2:1000*(a:Int)<(b:Int):=by omega
  rotate_left
  have t2:¬ 1000*(a:Int)<(b:Int):=by omega
  by_cases k3:b<2*a;have G:jl V=4:=by rw[hR.o];simp[k3]
  have t3:2*(a:Int) > (b:Int):=by omega
  rotate_left
  . (have t3:¬ 2*(a:Int) > (b:Int):=by omega);(have G:jl V=0:=by rw[hR.o];simp[k1,k2,k3]);(have d9:1<=a:=by omega);(have e3:1<=b:=by omega);(have c6:Hid (Q.RatMath.nf ⟨false,a,b⟩=kr V):=by show _=_;unfold kr;rw[hA.o.1,hA.o.2.1,ha.o,hb.o]);have a6:=Py a5 a7;rw[c6.o] at a6;have c7:=jA (WY G);have e5:=jA (Me a w1 d9 a5);go_wp2_with (first
      | (go_at_call 182;(with_reducible refine N1.o.mono ?_);rintro x w2 ⟨n1,rfl,rfl,b1,_,_⟩;obtain rfl:=b1 (by simp))
      | (go_at_call 182;(with_reducible refine N2.o.mono ?_);rintro x w2 ⟨n2,rfl,rfl,b2,_,_⟩;obtain rfl:=b2 (by simp))
      | (go_at_call_of 185 (Value.int IntKind.i64 (a:Int));(with_reducible refine e5.o.mono ?_);rintro x v1 ⟨p1,i1,i2,p2,i3,i4,rfl,L1,L2,B1⟩;have d8:=jA (Me b v1 e3 a7);have C1:Below w1.heap.size w1 v1:=B1)
      | (go_at_call_of 185 (Value.int IntKind.i64 (b:Int));(with_reducible refine d8.o.mono ?_);rintro x v2 ⟨p3,i5,i6,p4,i7,i8,rfl,L3,L4,B2⟩;have HD:=jA (PJ a b p1 p2 p3 p4 i1 i2 i3 i4 i5 i6 i7 i8 v2 a5 a7 (Q.LstB.below L1 B2) (Q.LstB.below L2 B2) L3 L4);have C2:Below w1.heap.size w1 v2:=C1.trans (B2.mono C1.size);clear L1 L2 L3 L4)
      | (go_at_call 184;(with_reducible refine HD.o.mono ?_);rintro x v3 ⟨p5,j1,j2,p6,j3,j4,rfl,L5,L6,B3⟩;rw[c6.o] at L5 L6;have HT:=jA (Pz (kr V).p (kr V).q p5 p6 j1 j2 j3 j4 v3 a6.1 a6.2 L5 L6);have C3:Below w1.heap.size w1 v3:=C2.trans (B3.mono C2.size);clear L5 L6)
      | (go_at_call 183;(with_reducible refine HT.o.mono ?_);rintro x v4 ⟨uo,un,uc,dO,dn,dc,rfl,I1,I2,B4⟩;have C4:Below w1.heap.size w1 v4:=C3.trans (B4.mono C3.size);have A4:=A1.o.kept C4;obtain⟨Z,m5,a0,J,c0,c1,c2,c3,c4,c5⟩:=jY A4 (.bool false) (.slice uo un uc) (.slice dO dn dc);have r0:Z.cell? ⟨y.heap.size,0,none⟩=some (.bool false):=J.cell 0;have r1:Z.cell? ⟨y.heap.size,1,none⟩=some (.slice uo un uc):=J.cell 1;have r2:Z.cell? ⟨y.heap.size,2,none⟩=some (.slice dO dn dc):=J.cell 2;have d0:=jA A4;have d7:=jA I1;have d3:=jA I2;have b9:=jA C4;have d4:=jA C3.size;clear A4 I1 I2)
      | fail)
    (have GZ:v4.grownBy Z (some y.heap.size):=by rw[a0.o];exact qC (qC (qM v4 y.heap.size 0 _) (qM _ y.heap.size 1 _)) (qM _ y.heap.size 2 _));refine bodyPost_ret (v:=.agg #[.bool false,.slice uo un uc,.slice dO dn dc]) (by simp[results,Tryz.results128,go_sem,r0,r1,r2]) rfl ?_;have c8:w.heap.size<=v3.heap.size:=Nat.le_trans e4.o (Nat.le_trans GG.o.size d4.o);refine⟨uo,un,uc,dO,dn,dc,_,_,rfl,by rw[G,jG];exact(SS.o.keep b9.o).gr GZ (λe=>H.o e.symm),yy (qC GU.o (qC GG.o (zH b9.o _))) GZ a2.o,Row.mono (Row.keep d7.o (qE _ _) (zD d0.o (by decide) GZ)) (je (Fs:=[144]) c8 (λ_ h=>h)),Row.mono (Row.keep d3.o (qE _ _) (zD d0.o (by decide) GZ)) (je (Fs:=[144]) c8 (λ_ h=>h)),λ_=>⟨c7.o.2.1,c7.o.2.2⟩⟩
  . (have a8:((d.toNat:Int) != 47)=true:=by simp;omega);obtain⟨m,hm⟩:∃m:Nat,Hid (d.toNat=m):=⟨_,rfl⟩;have e6:Hid (∀c∈V.take (j+1),c.toNat≠47):=by
     intro c hc;rw[Zv _ hd.o,List.mem_append] at hc;rcases hc with hc|hc
     . exact hI.o c hc
     . rw[List.mem_singleton] at hc;rw[hc];exact a1
    rw[hm.o] at x1 a8;clear a1;go_wp2_with fail;go_round;(case rel=>exact⟨j+1,by omega,by go_num,e6⟩);case measure=>simp[intOf];omega
  . (have d1:¬ (j:Int)<(s.size:Int):=by omega);have G:jl V=5:=Gm (by have:=hI.o;rwa [List.take_of_length_le (by have:=zR s;rw[a3.o] at this;omega)] at this);have HF:=jA (jO D F1 5 l g w1 SS.o (by decide) 5 rfl);go_wp2_with (first
      | (go_at_call 30;(with_reducible refine HF.o.mono ?_);rintro x w3 ⟨rfl,S3,G3⟩;obtain⟨Z,m5,a0,J,c0,c1,c2,c3,c4,c5⟩:=jY (kl A1.o G3 H.o) (.bool false) (.slice none 0 0) (.slice none 0 0);have r0:Z.cell? ⟨y.heap.size,0,none⟩=some (.bool false):=J.cell 0;have r1:Z.cell? ⟨y.heap.size,1,none⟩=some (.slice none 0 0):=J.cell 1;have r2:Z.cell? ⟨y.heap.size,2,none⟩=some (.slice none 0 0):=J.cell 2)
      | fail)
    (have GZ:w3.grownBy Z (some y.heap.size):=by rw[a0.o];exact qC (qC (qM w3 y.heap.size 0 _) (qM _ y.heap.size 1 _)) (qM _ y.heap.size 2 _));refine bodyPost_ret (v:=.agg #[.bool false,.slice none 0 0,.slice none 0 0]) (by simp[results,Tryz.results128,go_sem,r0,r1,r2]) rfl ?_;exact⟨none,0,0,none,0,0,[],[],rfl,by rw[G];exact S3.gr GZ (λe=>H.o e.symm),yy (qC GU.o (qC GG.o G3)) GZ a2.o,Row.nil _ _ _,Row.nil _ _ _,λe=>absurd (hZ.o e) (by rw[G];decide)⟩
  all_goals
    have HF:=jA (jO D F1 4 l g w1 SS.o (by decide) 4 rfl);go_wp2_with (first
      | (go_at_call 182;(with_reducible refine N1.o.mono ?_);rintro x w2 ⟨n1,rfl,rfl,b1,_,_⟩;obtain rfl:=b1 (by simp))
      | (go_at_call 182;(with_reducible refine N2.o.mono ?_);rintro x w2 ⟨n2,rfl,rfl,b2,_,_⟩;obtain rfl:=b2 (by simp))
      | (go_at_call 30;(with_reducible refine HF.o.mono ?_);rintro x w3 ⟨rfl,S3,G3⟩;obtain⟨Z,m5,a0,J,c0,c1,c2,c3,c4,c5⟩:=jY (kl A1.o G3 H.o) (.bool false) (.slice none 0 0) (.slice none 0 0);have r0:Z.cell? ⟨y.heap.size,0,none⟩=some (.bool false):=J.cell 0;have r1:Z.cell? ⟨y.heap.size,1,none⟩=some (.slice none 0 0):=J.cell 1;have r2:Z.cell? ⟨y.heap.size,2,none⟩=some (.slice none 0 0):=J.cell 2)
      | fail)
    (have GZ:w3.grownBy Z (some y.heap.size):=by rw[a0.o];exact qC (qC (qM w3 y.heap.size 0 _) (qM _ y.heap.size 1 _)) (qM _ y.heap.size 2 _));refine bodyPost_ret (v:=.agg #[.bool false,.slice none 0 0,.slice none 0 0]) (by simp[results,Tryz.results128,go_sem,r0,r1,r2]) rfl ?_;exact⟨none,0,0,none,0,0,[],[],rfl,by rw[G];exact S3.gr GZ (λe=>H.o e.symm),yy (qC GU.o (qC GG.o G3)) GZ a2.o,Row.nil _ _ _,Row.nil _ _ _,λe=>absurd (hZ.o e) (by rw[G];decide)⟩
def kC(c:Cst)(vo:Option Addr)(vn vc:Nat):List Value:=[.string (stg c.name),.slice vo vn vc,.int .i64 c.method,.int .i64 c.seats,.int .i64 c.ranks,.int .i64 c.digits,.int .i64 c.ties,.int .i64 c.over,.int .i64 c.skip]
namespace Lx
theorem Wa{key:List UInt8}{ws:List (List UInt8)}(hw:jP key=[] :: ws)(h0:([]:List UInt8)∉ws)(v:List UInt8):((xP key v:Nat):Int)=jV ws v+1/\chE ws v=if xP key v=0 then 2 else 0:=by
 unfold xP jV chE;rw[hw];by_cases m:v=[]
 . subst m;(have:vt [] ws=none:=Qj λt e=>h0 (List.mem_of_getElem? e));rw[this];exact⟨rfl,rfl⟩
 . have:vt v ([] :: ws)=(vt v ws).map (· + 1):=if_neg (λe=>m e.symm);rw[this];cases vt v ws with
   | none=>exact⟨rfl,rfl⟩
   | some k=>exact⟨rfl,rfl⟩
end Lx
theorem wZ{w:World}{b:Nat}{t:TypeId}{cs:List Value}(h:Arr w b t cs)(i:Nat)(u v:Value)(hv:cs[i]? = some v):∃V,w.setCell ⟨b,i,none⟩ u=V/\Arr V b t (cs.set i u)/\w.grownBy V (some b)/\w.cell? ⟨b,i,none⟩=some v/\w.frozen? ⟨b,i,none⟩=false :=
 ⟨_,rfl,h.set i u,qM w b i u,(h.cell i).trans hv,h.frozen i⟩
theorem US{gc:Nat}{c:Cst}{co:Option Addr}{cn cc:Nat}(F:Int->Cst)(i:Nat)(old:Value)(hF:∀n,(kC c co cn cc).set i (.int .i64 n)=kC (F n) co cn cc)(ho:(kC c co cn cc)[i]? = some old)(n:Int)(W:World)(A:Arr W gc 76 (kC c co cn cc)) :
    ∃V,W.setCell ⟨gc,i,none⟩ (.int .i64 n)=V/\Arr V gc 76 (kC (F n) co cn cc)/\W.grownBy V (some gc)/\W.cell? ⟨gc,i,none⟩=some old/\W.frozen? ⟨gc,i,none⟩=false:=by
 rw[<- hF];exact wZ A i _ _ ho
theorem St.setE{g:Nat}{f:Nat×Int}{e:Elc}{s:ESl}{T3:List Value}(F:Int->Elc)(i:Nat)(hi:i<17)(old:Value)(hF:∀n,(eC e s++T3).set i (.int .i64 n)=eC (F n) s++T3)(ho:(eC e s++T3)[i]? = some old)(n:Int)(W:World)(h:St W g (eC e s++T3) f) :
    ∃V,W.setCell ⟨g,i,none⟩ (.int .i64 n)=V/\St V g (eC (F n) s++T3) f/\W.grownBy V (some g)/\W.cell? ⟨g,i,none⟩=some old/\W.frozen? ⟨g,i,none⟩=false:=by
 rw[<- hF];exact h.setD i hi _ _ ho
namespace Lx
def yz(cn sn seen:List (List UInt8))(kind name:List UInt8):Nat :=
 if zb kind=[] then 2
 else if (decide (kind=qF)||decide (kind=qI))&&decide (name=[]) then 6
 else if (decide (kind=qF)||decide (kind=qI))&&(!zv name||decide (24<name.length)) then 8
 else if (decide (kind=qF)||decide (kind=qI))&&((decide (kind=qF)&&cn.contains name)||(decide (kind=qI)&&sn.contains name)) then 3
 else if (decide (kind=qF)&&decide (4<=cn.length))||(decide (kind=qI)&&decide (6<=sn.length)) then 7
 else if !(decide (kind=qF)||decide (kind=qI)) && !decide (name=[]) then 2
 else if !(decide (kind=qF)||decide (kind=qI))&&seen.contains kind then 3 else 0
theorem Jn(l:List (List UInt8))(x n:List UInt8):(l++[x]).contains n=(l.contains n||n == x):=by
 rw[List.contains_eq_any_beq,List.contains_eq_any_beq,List.any_append];simp
theorem Kc{α:Type}(f:α->List UInt8){l:List α}{j:Nat}{x:α}(h:l[j]? = some x)(n:List UInt8):((l.take (j+1)).map f).contains n=(((l.take j).map f).contains n||n == f x):=by
 rw[qg h,List.map_append,List.map_cons,List.map_nil,Jn]
end Lx
theorem Jo(k nm:List UInt8)(hk1:k≠qF)(hk2:k≠qI)(fo:Option Addr)(fn fc:Nat)(l:Int)(e:Elc)(s:ESl)(seen:List (List UInt8))(qo:Option Addr)(qn qc:Nat)(u1 u2:Value)(f:Nat×Int)(g:Nat)(w:World)(hQ:StrL qU w qo qn qc seen)(hcn:s.cn<=1000000)(hsn:s.sn<=1000000)(h:St w g (eC e s++[.slice qo qn qc,u1,u2]) f) :
    Calls Tryz.prog 70 #[.pointer (some ⟨g,0,none⟩),.agg #[.string (stg k),.string (stg nm),.slice fo fn fc,.int .i64 l]] w λx w'=>x=.returned (.tuple #[])/\St w' g (eC e s++[.slice qo qn qc,u1,u2]) (z7 f (yz (e.conts.map Cst.name) (e.stys.map Sty.name) seen k nm) l)/\w.grownBy w' (some g):=by
 obtain⟨R,hR⟩:∃X,Hid (yz (e.conts.map Cst.name) (e.stys.map Sty.name) seen k nm=X):=⟨_,rfl⟩;obtain⟨ZB,a2⟩:∃X,Hid (decide (zb k=[])=X):=⟨_,rfl⟩;obtain⟨BV,a7⟩:∃X,Hid (seen.contains k=X):=⟨_,rfl⟩;have a5:((stg nm).toList=[])↔nm=[]:=by rw[xH,zL]
 have y:Hid ((ZB=true/\R=2)\/(ZB=false/\¬ (stg nm).toList=[]/\R=2)\/(ZB=false/\(stg nm).toList=[]/\BV=true/\R=3)\/(ZB=false/\(stg nm).toList=[]/\BV=false/\R=0)):=by
  show _\/_;rw[a5,<- hR.o,<- a2.o,<- a7.o];unfold yz;by_cases c0:zb k=[]
  . rw[if_pos c0];exact Or.inl ⟨decide_eq_true c0,rfl⟩
  . rw[if_neg c0];replace c0:=decide_eq_false c0;by_cases c1:nm=[]
    . cases m:seen.contains k with
      | true=>exact Or.inr (Or.inr (Or.inl ⟨c0,c1,rfl,by simp[hk1,hk2,c1]⟩))
      | false=>exact Or.inr (Or.inr (Or.inr ⟨c0,c1,rfl,by simp[hk1,hk2,c1]⟩))
    . exact Or.inr (Or.inl ⟨c0,c1,by simp[hk1,hk2,c1]⟩)
 rw[hR.o];obtain⟨U,e1,AU,G,hz⟩:=qG w 55 [.string (stg k),.string (stg nm),.slice fo fn fc,.int .i64 l];have b1:((stg k).toList == [99,111,110,116,101,115,116])=false:=jh (v:=qF) hk1;have b2:((stg k).toList == [115,116,121,108,101])=false:=jh (v:=qI) hk2;have HK:Hid (∀W,jC 71 #[.string (stg k)] W λe w'=>∃ao n c,e=.returned (.slice ao n c)/\ao.isNone=ZB/\Below W.heap.size W w'):=λW=>by
  refine(gp k W).mono ?_;rintro x w' ⟨ao,n,c,rfl,_,m,hk⟩;refine⟨ao,n,c,rfl,?_,m⟩;rw[<- a2.o];cases ao with
  | none=>rw[decide_eq_true (hk.2 rfl)];rfl
  | some a=>rw[decide_eq_false (λe=>by cases hk.1 e)];rfl
 have a1:=ug seen k;rw[a7.o] at a1;obtain⟨IX,a3⟩:∃X,Hid (jV seen k=X):=⟨_,rfl⟩;rw[a3.o] at a1;have a0:Hid (∀W,Below U.heap.size U W->Calls Tryz.prog 32 #[.slice qo qn qc,.string (stg k)] W λe w'=>e=.returned (.int .i64 IX)/\W=w'):=λW m=>by
  have:=vZ seen k qo qn qc W (StrL.below (StrL.below hQ G) m);rw[a3.o] at this;exact this
 obtain⟨KK,H⟩:∃K,Hid (stg k=K):=⟨_,rfl⟩;obtain⟨NM,Z⟩:∃K,Hid (stg nm=K):=⟨_,rfl⟩;rw[H.o,Z.o] at e1 AU;rw[H.o] at b1 b2 HK a0;rw[Z.o] at y;rw[H.o,Z.o];have HY:Hid (∀W,Below U.heap.size U W->W.cell? ⟨w.heap.size,0,none⟩=some (.string KK)/\W.cell? ⟨w.heap.size,1,none⟩=some (.string NM)/\W.cell? ⟨w.heap.size,3,none⟩=some (.int .i64 l)):=λW m=>⟨(AU.kept m).cell 0,(AU.kept m).cell 1,(AU.kept m).cell 3⟩
 have a4:Hid (∀W,Below U.heap.size U W->St W g (eC e s++[.slice qo qn qc,u1,u2]) f):=λW m=>(h.keep G).keep m
 have HD:Hid (∀W,Below U.heap.size U W->W.cell? ⟨g,5,none⟩=some (.slice s.co s.cn s.cc)/\W.cell? ⟨g,6,none⟩=some (.slice s.so s.sn s.sc)/\W.cell? ⟨g,14,none⟩=some (.slice qo qn qc)):=λW m=>⟨((h.keep G).keep m).cellD 5 (by decide),((h.keep G).keep m).cellD 6 (by decide),((h.keep G).keep m).cellD 14 (by decide)⟩
 have GU:=jA (zH G (some g));have HF:Hid (∀W (E:Int),1<=E->Below U.heap.size U W->Calls Tryz.prog 30 #[.pointer (some ⟨g,0,none⟩),.int .i64 E,.int .i64 l] W λx w'=>x=.returned (.tuple #[])/\St w' g (eC e s++[.slice qo qn qc,u1,u2]) (z7 f E.toNat l)/\W.grownBy w' (some g)):=λW E hE m=>jO _ f E.toNat l g W (((h.keep G).keep m)) (by omega) E (by omega)
 have b3:∀W a n c,(binOp .eql 26 (.slice a n c) (.slice none 0 0)).run Tryz.prog W=.ok (.bool a.isNone) W:=λW a n c=>Lib.run_eql_slice_nil W _ _ a n c 0 0 Tryz.underlying26
 obtain⟨y0,y1,y3⟩:=HY.o U (Below.refl _ _);obtain⟨d5,d6,a6⟩:=HD.o U (Below.refl _ _);clear h hQ AU G hz a5 hk1 hk2;go_in;go_wp2_with fail;go_loopw [5,6,7] (λsm n i wr=>sm=.bool false/\n=.int .i64 0/\i=.int .i64 0/\Hid (Below U.heap.size U wr)) (λ_ _ _ _=>0)
 case atStart=>exact⟨rfl,rfl,rfl,Below.refl _ _⟩
 case round =>
  obtain⟨w3,a8⟩:∃x,x=wr:=⟨_,rfl⟩;subst a8;obtain⟨rfl,rfl,rfl,BX⟩:=hrel;obtain⟨y0,y1,y3⟩:=HY.o w3 BX.o;obtain⟨d5,d6,a6⟩:=HD.o w3 BX.o;by_cases h0:0<s.cn <;>
    (go_wp2_with fail
     (go_loopw [5,6,8] (λsm n i wr=>sm=.bool false/\n=.int .i64 0/\i=.int .i64 0/\Hid (Below U.heap.size U wr)) (λ_ _ _ _=>0));(case atStart=>exact⟨rfl,rfl,rfl,BX⟩);case round =>
      obtain⟨w1,a9⟩:∃x,x=wr:=⟨_,rfl⟩;subst a9;obtain⟨rfl,rfl,rfl,BW⟩:=hrel;obtain⟨y0,y1,y3⟩:=HY.o w1 BW.o;obtain⟨d5,d6,a6⟩:=HD.o w1 BW.o;by_cases h9:0<s.sn <;>
        (rcases y.o with ⟨rfl,rfl⟩|⟨rfl,i2,rfl⟩|⟨rfl,i2,rfl,rfl⟩|⟨rfl,i2,rfl,rfl⟩
         all_goals
           (try (first|(have i1:NM.toList.isEmpty=true:=by rw[i2];rfl)|(have i1:NM.toList.isEmpty=false:=by simpa using i2)))
           go_wp2_with (first
             | (go_at_call 71;(with_reducible refine(HK.o w1).mono ?_);rintro x J ⟨ao,kn,kc,rfl,hk,B4⟩;have V:=jA (BW.o.trans (B4.mono BW.o.size));obtain⟨p0,p1,p3⟩:=HY.o J V.o;obtain⟨r5,r6,b7⟩:=HD.o J V.o;have C5:Hid (Below U.heap.size U J.drew):=below_drewN V.o 1;have b0:=jA (a0.o J.drew C5.o);obtain⟨b5,b6,b4⟩:=HY.o J.drew C5.o)
             | (go_at_call 30;(with_reducible refine(HF.o J _ (by decide) V.o).mono ?_);rintro x w6 ⟨rfl,S6,G6⟩)
             | fail)
           try (go_region_held3 (λw'=>w'.cell? ⟨w.heap.size,0,none⟩=some (.string KK)/\w'.cell? ⟨g,14,none⟩=some (.slice qo qn qc)) (go_keep) (first
                 | (go_at_call 32;(with_reducible refine b0.o.mono ?_);rintro x w5 ⟨rfl,rfl⟩)
                 | fail)
                go_wp2_with (first
                 | (go_at_call 30;(with_reducible refine(HF.o J.drew _ (by decide) C5.o).mono ?_);rintro x w6 ⟨rfl,S6,G6⟩)
                 | fail))
           go_end0
           first|exact⟨rfl,S6,qC GU.o (qC (zH V.o _) G6)⟩|exact⟨rfl,S6,qC GU.o (qC (zH C5.o _) G6)⟩|exact⟨rfl,by rw[jG];exact a4.o _ C5.o,qC GU.o (zH C5.o _)⟩|exact⟨rfl,by rw[jG];exact a4.o _ V.o,qC GU.o (zH V.o _)⟩))
