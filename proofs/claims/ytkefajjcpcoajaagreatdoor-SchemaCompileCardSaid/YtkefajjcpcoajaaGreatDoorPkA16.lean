/- -/
import Derived.Test.YtkefajjcpcoajaaGreatDoorPkA0
import Derived.Laws.Rows
import Derived.Lib.IndexLaws
import Derived.Deep.QuietTactic
import Derived.BigQuiet
import Derived.Test.YtkefajjcpcoajaaGreatDoorPkA9
import Derived.Test.YtkefajjcpcoajaaGreatDoorPkA11
import Derived.Test.YtkefajjcpcoajaaGreatDoorPkA14
import Derived.Test.YtkefajjcpcoajaaGreatDoorPkA15
set_option linter.all false
set_option maxRecDepth 100000
set_option maxHeartbeats 3200000
namespace Go.Proofs.YtkefajjcpcoajaaGreatDoor.Q
open Go.RowKit NatMath
variable {B n c g:Nat}{k:IntKind}{w:World}{ao:Option Addr}{xs:List Int}
def Blk(w:World)(g:Nat)(t:TypeId)(cs:Array Value):Prop:=w.heap[g]? = some (.cells cs t (0,0))
section
variable {w w' : World} {g : Nat} {t : TypeId} {cs : Array Value}
theorem Blk.lt(h:Blk w g t cs):g<w.heap.size:=by
 rcases Nat.lt_or_ge g w.heap.size with hlt|hge
 . exact hlt
 . unfold Blk at h;rw[Array.getElem?_eq_none hge] at h;cases h
theorem Blk.cell(h:Blk w g t cs)(i:Nat):w.cell? ⟨g,i,none⟩=cs[i]? := cell_of_row w g i cs t (0,0) h
theorem Blk.frozen(h:Blk w g t cs)(i:Nat):w.frozen? ⟨g,i,none⟩=false:=by
 unfold Blk at h;simp[World.frozen?,h]
theorem Blk.new(w:World)(t:TypeId)(cs:Array Value):Blk (w.alloc (.cells cs t)) w.heap.size t cs:=heap_alloc_new w _
theorem Blk.drewN(h:Blk w g t cs)(n:Nat):Blk (w.drewN n) g t cs:=h
theorem Blk.alloc(h:Blk w g t cs)(o:Obj):Blk (w.alloc o) g t cs:=(Below.heap_alloc w o g h.lt).trans h
theorem Blk.set(h:Blk w g t cs)(i:Nat)(u:Value):Blk (w.setCell ⟨g,i,none⟩ u) g t (cs.setIfInBounds i u):=by
 unfold Blk at h |-;simp[World.setCell,Array.getElem?_modify,h]
theorem Blk.far(h:Blk w g t cs){p:Addr}(hp:g≠p.block)(u:Value):Blk (w.setCell p u) g t cs:=(Below.heap_setCell w p u g hp).trans h
theorem Blk.below(h:Blk w g t cs)(hb:Below B w w')(hg:g<B):Blk w' g t cs:=(hb.block g hg).trans h
theorem Blk.on(h:Blk w g t cs)(hb:Below w.heap.size w w'):Blk w' g t cs:=h.below hb h.lt
end
def put3(w:World)(g:Nat)(u0 u1 u2:Value):World:=((w.setCell ⟨g,0,none⟩ u0).setCell ⟨g,1,none⟩ u1).setCell ⟨g,2,none⟩ u2
section
variable {w : World} {g : Nat} {t : TypeId} {v0 v1 v2 : Value}
theorem Blk.cells3(h:Blk w g t #[v0,v1,v2]):w.cell? ⟨g,0,none⟩=some v0/\w.cell? ⟨g,1,none⟩=some v1/\w.cell? ⟨g,2,none⟩=some v2:=⟨h.cell 0,h.cell 1,h.cell 2⟩
theorem Blk.store3(h:Blk w g t #[v0,v1,v2])(u0 u1:Value) :
    w.cell? ⟨g,0,none⟩=some v0/\w.frozen? ⟨g,0,none⟩=false/\(w.setCell ⟨g,0,none⟩ u0).cell? ⟨g,1,none⟩=some v1/\(w.setCell ⟨g,0,none⟩ u0).frozen? ⟨g,1,none⟩=false /\
    ((w.setCell ⟨g,0,none⟩ u0).setCell ⟨g,1,none⟩ u1).cell? ⟨g,2,none⟩=some v2/\((w.setCell ⟨g,0,none⟩ u0).setCell ⟨g,1,none⟩ u1).frozen? ⟨g,2,none⟩=false:=by
 have m:=h.set 0 u0;have y:=m.set 1 u1;exact⟨h.cell 0,h.frozen 0,m.cell 1,m.frozen 1,y.cell 2,y.frozen 2⟩
theorem Blk.put3(h:Blk w g t #[v0,v1,v2])(u0 u1 u2:Value):Blk (put3 w g u0 u1 u2) g t #[u0,u1,u2]:=((h.set 0 u0).set 1 u1).set 2 u2
theorem jK{a:World}(h:Below B a w)(hg:B<=g)(u0 u1 u2:Value):Below B a (Go.Proofs.YtkefajjcpcoajaaGreatDoor.Q.put3 w g u0 u1 u2):=((h.setCell hg u0).setCell hg u1).setCell hg u2
theorem gD{g':Nat}{t':TypeId}{cs:Array Value}(h:Blk w g' t' cs)(hne:g'≠g)(u0 u1 u2:Value):Blk (Go.Proofs.YtkefajjcpcoajaaGreatDoor.Q.put3 w g u0 u1 u2) g' t' cs:=((h.far (p:=⟨g,0,none⟩) hne u0).far (p:=⟨g,1,none⟩) hne u1).far (p:=⟨g,2,none⟩) hne u2
theorem gE(w:World)(g:Nat)(u0 u1 u2:Value):w.grownBy (Go.Proofs.YtkefajjcpcoajaaGreatDoor.Q.put3 w g u0 u1 u2) (some g):=by
 have e:∀ (w:World) (i:Nat) (u:Value),w.grownBy (w.setCell ⟨g,i,none⟩ u) (some g):=λw i u =>
  ⟨rfl,rfl,rfl,by simp[World.setCell],λk _ m=>Below.heap_setCell w _ u k (λe=>m (by rw[e]))⟩
 exact qC (qC (e w 0 u0) (e _ 1 u1)) (e _ 2 u2)
end
theorem Own.put3{e:TypeId}(h:Own e k B w ao n c xs)(hne:∀a,ao=some a->g≠a.block)(u0 u1 u2:Value):Own e k B (put3 w g u0 u1 u2) ao n c xs :=
 h.grown (gE w g u0 u1 u2) (λa ha=>by simpa using hne a ha)
theorem Own.hi{e:TypeId}(h:Own e k B w ao n c xs)(hg:g<B):∀a,ao=some a->g≠a.block:=by
 intro a m;rcases h.cases with ⟨h0,_⟩|⟨q,hq,h1,_⟩
 . rw[h0] at m;cases m
 . rw[hq] at m;cases m;show g≠q;omega
theorem Lst.put3(h:Lst k w ao n c xs)(hne:∀i,i<n->(pt ao i).block≠g)(u0 u1 u2:Value):Lst k (put3 w g u0 u1 u2) ao n c xs :=
 h.grown (gE w g u0 u1 u2) (λi hi=>by simpa using hne i hi)
theorem Yy(w:World)(t:TypeId)(A B:Array Value):∃W,W=(w.alloc (.cells A t)).alloc (.cells B t)/\Blk W w.heap.size t A/\Blk W (w.heap.size+1) t B/\Below w.heap.size w W:=by
 refine⟨_,rfl,(Blk.new w t A).alloc _,?_,((Below.refl w.heap.size w).alloc (Nat.le_refl _) _).alloc (by simp) _⟩;have:=Blk.new (w.alloc (.cells A t)) t B
 rwa [show(w.alloc (.cells A t)).heap.size=w.heap.size+1 by simp] at this
theorem Mu(w:World)(t:TypeId)(A B C:Array Value):∃W,W=((w.alloc (.cells A t)).alloc (.cells B t)).alloc (.cells C t)/\Blk W w.heap.size t A/\Blk W (w.heap.size+1) t B/\Blk W (w.heap.size+1+1) t C/\Below w.heap.size w W:=by
 refine⟨_,rfl,((Blk.new w t A).alloc _).alloc _,?_,?_,(((Below.refl w.heap.size w).alloc (Nat.le_refl _) _).alloc (by simp) _).alloc (by simp;omega) _⟩
 . have:=(Blk.new (w.alloc (.cells A t)) t B).alloc (.cells C t)
   rwa [show(w.alloc (.cells A t)).heap.size=w.heap.size+1 by simp] at this
 . have:=Blk.new ((w.alloc (.cells A t)).alloc (.cells B t)) t C
   rwa [show((w.alloc (.cells A t)).alloc (.cells B t)).heap.size=w.heap.size+1+1 by simp] at this
end Go.Proofs.YtkefajjcpcoajaaGreatDoor.Q
/-
  ratio.isZero,ratio.Make,ratio.normal,ratio.divisible,ratio.negate.
-/
namespace Go.Proofs.YtkefajjcpcoajaaGreatDoor.Q
open Go.RowKit NatMath RatMath
theorem WJ:qL 1=[1]:=by
 rw[jx (by omega),show 1 / 4294967296=0 by omega,zh];rfl
def rv(s:Bool)(a:Option Addr)(n c:Nat)(b:Option Addr)(m d:Nat):Value:=.agg #[.bool s,.slice a n c,.slice b m d]
theorem GN{v:Nat}:(((qZ v).length:Int) == 0)=decide (v=0):=by
 by_cases h:v=0
 . subst h;rw[jJ];rfl
 . rw[xS h,decide_eq_false h];simp;omega
theorem gX(ao:Option Addr)(n c:Nat)(xs:List Int)(w:World)(h:Lst .u32 w ao n c xs)(hn:n<=1073741820) :
    Calls Tryz.prog 108 #[.slice ao n c] w λe w'=>e=.returned (.bool (decide (val xs=0)))/\w=w':=by
 have y:=jA (Mp ao n c xs w h (by omega));have G:=jA (GN (v:=val xs));obtain⟨L,m⟩:=jx2 ((qZ (val xs)).length);rw[<- m.o] at y;go_in;go_wp2_with fail;refine y.o.mono ?_;rintro e w' ⟨rfl,rfl⟩;go_wp2_with fail;go_ret;exact⟨by rw[<- G.o,m.o];rfl,rfl⟩
theorem Dp(s:Bool)(ao bo:Option Addr)(n c m d:Nat)(xs ys:List Int)(w:World)(h:Lst .u32 w ao n c xs)(k:Lst .u32 w bo m d ys)(hn:n<=1000000)(hm:m<=1000000)(hs:val ys=0\/val xs<4294967296/\val ys<4294967296) :
    Calls Tryz.prog 144 #[.bool s,.slice ao n c,.slice bo m d] w λe w'=>∃s' a n' c' b m' d',e=.returned (.agg #[.bool s',.slice a n' c',.slice b m' d'])/\s'=(nf ⟨s,val xs,val ys⟩).s/\Own 144 .u32 w.heap.size w' a n' c' (qL (nf ⟨s,val xs,val ys⟩).p)/\Own 144 .u32 w.heap.size w' b m' d' (qL (nf ⟨s,val xs,val ys⟩).q)/\n'<=n/\m'<=m+1/\Below w.heap.size w w':=by
 obtain⟨X,hX⟩:=jx2 (val xs);obtain⟨Y,hY⟩:=jx2 (val ys);have a7:=λw1 (hb:Below w.heap.size w w1)=>gX ao n c xs w1 (h.below hb) (by omega)
 have a0:=λw1 (hb:Below w.heap.size w w1)=>gX bo m d ys w1 (k.below hb) (by omega)
 have HG:=λ(hl:val xs<4294967296/\val ys<4294967296) w1 (hb:Below w.heap.size w w1)=>Po ao bo n c m d xs ys w1 (h.below hb) (k.below hb) (by omega) (by omega) hl.1 hl.2
 rw[<- hX.o] at a7;rw[<- hY.o] at a0;rw[<- hX.o,<- hY.o] at HG hs |-;have a7:=jA a7;have a0:=jA a0;have HG:=jA HG;have H:=jA h;have K:=jA k;have d8:=jA hs;have bb:=(Below.refl w.heap.size w).alloc (Nat.le_refl _) (.cells #[.bool false,.slice none 0 0,.slice none 0 0] 32);clear h k hs;go_in;go_wp2_with fail;refine(a7.o _ bb).mono ?_;rintro e w' ⟨rfl,rfl⟩;by_cases Z:X=0
 . (have hd:decide (X=0)=true:=by simpa using Z);have HN:=jA (yd (x:=⟨s,X,Y⟩) (Or.inl Z));clear Z;go_wp2_with fail;refine(XO 1 _ (by omega) (by omega)).mono ?_;rintro e w2 ⟨y,n2,c2,d4,rfl,V,b2⟩;(have b8:n2<=1:=by rw[<- V.len,show Int.toNat 1=1 from rfl,WJ];decide);have k2:=(Blk.new w 32 #[.bool false,.slice none 0 0,.slice none 0 0]).on b2;have BB:=jA (bb.trans (b2.mono (by simp)));have O2:=jA V;obtain⟨s0,s1,s2,s3,s4,s5⟩:=k2.store3 (.bool false) (.slice none 0 0);have K2:=jA k2;clear k2 V b2;go_wp2_with fail;have k3:=K2.o.put3 (.bool false) (.slice none 0 0) (.slice y n2 c2);have J:=jK BB.o (Nat.le_refl _) (.bool false) (.slice none 0 0) (.slice y n2 c2);have o3:=O2.o.put3 (O2.o.hi (g:=w.heap.size) (by simp)) (.bool false) (.slice none 0 0) (.slice y n2 c2);obtain⟨W,hW⟩:=jx4 (put3 w2 w.heap.size (.bool false) (.slice none 0 0) (.slice y n2 c2));change bodyPost _ _ _ _ _ (put3 w2 w.heap.size (.bool false) (.slice none 0 0) (.slice y n2 c2));rw[<- hW] at k3 J o3 |-;obtain⟨r0,r1,r2⟩:=k3.cells3;refine bodyPost_ret (v:=.agg #[.bool false,.slice none 0 0,.slice y n2 c2]) (by simp[results,Tryz.results144,go_sem,r0,r1,r2]) rfl ?_;refine⟨_,none,0,0,y,n2,c2,rfl,by rw[HN.o];rfl,?_,?_,Nat.zero_le _,by omega,J⟩
   . rw[HN.o,show zero.p=0 from rfl,zh];exact gT _ _ _ _
   . rw[HN.o,show zero.q=1 from rfl];exact o3.low (by simp)
 have hd:decide (X=0)=false:=by simpa using Z
 by_cases hy:Y=0
 . (have d7:decide (Y=0)=true:=by simpa using hy);have HN:=jA (yd (x:=⟨s,X,Y⟩) (Or.inr hy));clear Z hy;go_wp2_with fail;refine(a0.o _ bb).mono ?_;rintro e w' ⟨rfl,rfl⟩;go_wp2_with fail;refine(XO 1 _ (by omega) (by omega)).mono ?_;rintro e w2 ⟨y,n2,c2,d4,rfl,V,b2⟩;(have b8:n2<=1:=by rw[<- V.len,show Int.toNat 1=1 from rfl,WJ];decide);have k2:=(Blk.new w 32 #[.bool false,.slice none 0 0,.slice none 0 0]).on b2;have BB:=jA (bb.trans (b2.mono (by simp)));have O2:=jA V;obtain⟨s0,s1,s2,s3,s4,s5⟩:=k2.store3 (.bool false) (.slice none 0 0);have K2:=jA k2;clear k2 V b2;go_wp2_with fail;have k3:=K2.o.put3 (.bool false) (.slice none 0 0) (.slice y n2 c2);have J:=jK BB.o (Nat.le_refl _) (.bool false) (.slice none 0 0) (.slice y n2 c2);have o3:=O2.o.put3 (O2.o.hi (g:=w.heap.size) (by simp)) (.bool false) (.slice none 0 0) (.slice y n2 c2);obtain⟨W,hW⟩:=jx4 (put3 w2 w.heap.size (.bool false) (.slice none 0 0) (.slice y n2 c2));change bodyPost _ _ _ _ _ (put3 w2 w.heap.size (.bool false) (.slice none 0 0) (.slice y n2 c2));rw[<- hW] at k3 J o3 |-;obtain⟨r0,r1,r2⟩:=k3.cells3;refine bodyPost_ret (v:=.agg #[.bool false,.slice none 0 0,.slice y n2 c2]) (by simp[results,Tryz.results144,go_sem,r0,r1,r2]) rfl ?_;refine⟨_,none,0,0,y,n2,c2,rfl,by rw[HN.o];rfl,?_,?_,Nat.zero_le _,by omega,J⟩
   . rw[HN.o,show zero.p=0 from rfl,zh];exact gT _ _ _ _
   . rw[HN.o,show zero.q=1 from rfl];exact o3.low (by simp)
 . (have d7:decide (Y=0)=false:=by simpa using hy);have HN:=jA (XU (x:=⟨s,X,Y⟩) Z hy);have a9:=d8.o.resolve_left hy;have HG:=jA (HG.o a9);have b5:=Nat.lt_of_le_of_lt (Nat.gcd_le_left Y (Nat.pos_of_ne_zero Z)) a9.1;clear a9;(have b0:Nat.gcd X Y≠0:=λh0=>Z (Nat.eq_zero_of_gcd_eq_zero_left h0));have b6:=jA (zA H.o.ok);have d2:=jA (zA K.o.ok);rw[<- hX.o,H.o.len] at b6;rw[<- hY.o,K.o.len] at d2;have b7:(qL (Nat.gcd X Y)).length<=n:=Nat.le_trans (xJ (Nat.gcd_le_left Y (Nat.pos_of_ne_zero Z))) b6.o;obtain⟨G,hG⟩:=jx2 (Nat.gcd X Y);rw[<- hG.o] at HG b0 b7 b5;have d1:=jA b5;clear b5;have HX:=jA Z;have HY:=jA hy;have d5:=jA b7;have d0:=jA b0;clear Z hy b7 b0;go_wp2_with fail;refine(a0.o _ bb).mono ?_;rintro e w' ⟨rfl,rfl⟩;go_wp2_with fail;refine(HG.o _ bb).mono ?_;rintro e w2 ⟨y,n2,c2,rfl,V,b2⟩;have k2:=(Blk.new w 32 #[.bool false,.slice none 0 0,.slice none 0 0]).on b2;have BB:=jA (bb.trans (b2.mono (by simp)));(have d4:n2<=n:=by rw[<- V.len];exact d5.o);have D:=V.lst;have c7:=MV ao y n c n2 c2 xs (qL G) w2 (H.o.below BB.o) D (by omega) (by rw[qP];exact d0.o) (by rw[qP];exact d1.o);rw[qP,<- hX.o] at c7;have d3:=jA c7;have K2:=jA k2;clear k2 V b2 c7;go_wp2_with fail;refine d3.o.mono ?_;rintro e w3 ⟨a3,n3,c3,a4,n4,c4,rfl,o3,_,J⟩;have a8:=jA (BB.o.trans (J.mono BB.o.size));have K3:=jA (K2.o.on J);have d6:n3<=n:=by
    rw[<- o3.len];exact Nat.le_trans (xJ (Nat.div_le_self X G)) b6.o
   have O3:=jA (o3.low BB.o.size);have b1:=jA (o3.hi (g:=w.heap.size) K2.o.lt);have D3:=D.below J;have a1:=MV bo y m d n2 c2 ys (qL G) w3 (K.o.below a8.o) D3 (by omega) (by rw[qP];exact d0.o) (by rw[qP];exact d1.o);rw[qP,<- hY.o] at a1;have c8:=jA a1;clear D D3 J a1 d3 o3;go_wp2_with fail;refine c8.o.mono ?_;rintro e w4 ⟨a5,n5,c5,a6,n6,c6,rfl,o5,_,b4⟩;have BB:=jA (a8.o.trans (b4.mono a8.o.size));have K2:=jA (K3.o.on b4);have d9:n5<=m:=by
    rw[<- o5.len];exact Nat.le_trans (xJ (Nat.div_le_self Y G)) d2.o
   have O3:=jA (O3.o.kept b4);have b9:=jA (o5.hi (g:=w.heap.size) K3.o.lt);have O5:=jA (o5.low a8.o.size);obtain⟨s0,s1,s2,s3,s4,s5⟩:=K2.o.store3 (.bool s) (.slice a3 n3 c3);clear o5 b4 c8;go_wp2_with fail;have k3:=K2.o.put3 (.bool s) (.slice a3 n3 c3) (.slice a5 n5 c5);have J:=jK BB.o (Nat.le_refl _) (.bool s) (.slice a3 n3 c3) (.slice a5 n5 c5);have p3:=O3.o.put3 b1.o (.bool s) (.slice a3 n3 c3) (.slice a5 n5 c5);have p5:=O5.o.put3 b9.o (.bool s) (.slice a3 n3 c3) (.slice a5 n5 c5);obtain⟨W,hW⟩:=jx4 (put3 w4 w.heap.size (.bool s) (.slice a3 n3 c3) (.slice a5 n5 c5));change bodyPost _ _ _ _ _ (put3 w4 w.heap.size (.bool s) (.slice a3 n3 c3) (.slice a5 n5 c5));rw[<- hW] at k3 J p3 p5 |-;obtain⟨r0,r1,r2⟩:=k3.cells3;refine bodyPost_ret (v:=.agg #[.bool s,.slice a3 n3 c3,.slice a5 n5 c5]) (by simp[results,Tryz.results144,go_sem,r0,r1,r2]) rfl ?_;refine⟨_,a3,n3,c3,a5,n5,c5,rfl,by rw[HN.o],?_,?_,d6,by omega,J⟩
   . rw[HN.o,<- hG.o];exact p3
   . rw[HN.o,<- hG.o];exact p5
end Go.Proofs.YtkefajjcpcoajaaGreatDoor.Q
/-
  ratio.normal,ratio.divisible,ratio.negate.
-/
namespace Go.Proofs.YtkefajjcpcoajaaGreatDoor.Q
open Go.RowKit NatMath RatMath
theorem Zo(s:Bool)(ao bo:Option Addr)(n c m d:Nat)(xs ys:List Int)(w:World)(h:Lst .u32 w ao n c xs)(k:Lst .u32 w bo m d ys)(hn:n<=1000000)(hm:m<=1000000)(hs:val ys=0\/val xs<4294967296/\val ys<4294967296) :
    Calls Tryz.prog 87 #[.agg #[.bool s,.slice ao n c,.slice bo m d]] w λe w'=>∃s' a n' c' b m' d',e=.returned (.agg #[.bool s',.slice a n' c',.slice b m' d'])/\s'=(nf ⟨s,val xs,val ys⟩).s/\Own 144 .u32 w.heap.size w' a n' c' (qL (nf ⟨s,val xs,val ys⟩).p)/\Own 144 .u32 w.heap.size w' b m' d' (qL (nf ⟨s,val xs,val ys⟩).q)/\n'<=n/\m'<=m+1/\Below w.heap.size w w':=by
 have HM:=jA (λw1 (hb:Below w.heap.size w w1)=>Dp s ao bo n c m d xs ys w1 (h.below hb) (k.below hb) hn hm hs);clear h k;go_in;go_wp2_with fail;have bb:Below w.heap.size w ((w.alloc (.cells #[.bool s,.slice ao n c,.slice bo m d] 32)).alloc (.cells #[.bool false,.slice none 0 0,.slice none 0 0] 32)):=((Below.refl w.heap.size w).alloc (Nat.le_refl _) _).alloc (by simp) _;have kb:=Blk.new (w.alloc (.cells #[.bool s,.slice ao n c,.slice bo m d] 32)) 32 #[.bool false,.slice none 0 0,.slice none 0 0];rw[show(w.alloc (.cells #[.bool s,.slice ao n c,.slice bo m d] 32)).heap.size=w.heap.size+1 by simp] at kb;obtain⟨w1,a1⟩:=jx4 (((w.alloc (.cells #[.bool s,.slice ao n c,.slice bo m d] 32)).alloc (.cells #[.bool false,.slice none 0 0,.slice none 0 0] 32)));rw[<- a1] at bb kb |-;refine(HM.o w1 bb).mono ?_;rintro e w2 ⟨y,G,n2,c2,b2,V,H,rfl,a3,o2,o3,a4,a5,a0⟩;have K2:=kb.on a0;have BB:=bb.trans (a0.mono bb.size);have h2:=o2.hi (g:=w.heap.size+1) kb.lt;have h3:=o3.hi (g:=w.heap.size+1) kb.lt;have O2:=jA (o2.low bb.size);have O3:=jA (o3.low bb.size);obtain⟨q0,q1,q2,q3,q4,q5⟩:=K2.store3 (.bool y) (.slice G n2 c2);have HS:=jA a3;clear a3 a1 kb bb a0 o2 o3;go_wp2_with fail;have Z:=K2.put3 (.bool y) (.slice G n2 c2) (.slice b2 V H);have J:=jK BB (Nat.le_succ _) (.bool y) (.slice G n2 c2) (.slice b2 V H);have p2:=O2.o.put3 h2 (.bool y) (.slice G n2 c2) (.slice b2 V H);have p3:=O3.o.put3 h3 (.bool y) (.slice G n2 c2) (.slice b2 V H);obtain⟨W,hW⟩:=jx4 (put3 w2 (w.heap.size+1) (.bool y) (.slice G n2 c2) (.slice b2 V H));change bodyPost _ _ _ _ _ (put3 w2 (w.heap.size+1) (.bool y) (.slice G n2 c2) (.slice b2 V H));rw[<- hW] at Z J p2 p3 |-;obtain⟨r0,r1,r2⟩:=Z.cells3;refine bodyPost_ret (v:=.agg #[.bool y,.slice G n2 c2,.slice b2 V H]) (by simp[results,Tryz.results87,go_sem,r0,r1,r2]) rfl ?_;exact⟨y,G,n2,c2,b2,V,H,rfl,HS.o,p2,p3,a4,a5,J⟩
theorem Dq(s:Bool)(ao bo:Option Addr)(n c m d:Nat)(w:World) :
    Calls Tryz.prog 107 #[.agg #[.bool s,.slice ao n c,.slice bo m d]] w λe w'=>e=.returned (.agg #[.bool !s,.slice ao n c,.slice bo m d])/\Below w.heap.size w w':=by
 go_in;go_wp2_with fail;exact bodyPost_ret (v:=.agg #[.bool !s,.slice ao n c,.slice bo m d]) (by simp[results,Tryz.results107,go_sem]) rfl ⟨rfl,((Below.refl _ _).alloc (Nat.le_refl _) _).alloc (by simp) _⟩
def Pp(w:World)(n:Nat)(ao:Option Addr)(n':Nat)(a:Option Addr):Prop:=∀g,g<w.heap.size->(∀j,j<n->(pt ao j).block≠g)->∀i,i<n'->(pt a i).block≠g
theorem Qs(s:Bool)(ao bo:Option Addr)(n c m d:Nat)(xs ys:List Int)(w:World)(h:Lst .u32 w ao n c xs)(k:Lst .u32 w bo m d ys)(hn:n<=1000000)(hm:m<=1000000) :
    Calls Tryz.prog 159 #[.agg #[.bool s,.slice ao n c,.slice bo m d]] w λe w'=>∃s' a n' c' b m' d' xs' ys',e=.returned (.agg #[.bool s',.slice a n' c',.slice b m' d'])/\R.mk s' (val xs') (val ys')=dv ⟨s,val xs,val ys⟩/\Lst .u32 w' a n' c' xs'/\Lst .u32 w' b m' d' ys'/\n'<=n/\m'<=m+1/\Pp w n ao n' a/\Pp w m bo m' b/\Below w.heap.size w w':=by
 have HZ:=jA (λJ (hb:Below w.heap.size w J)=>gX bo m d ys J (k.below hb) (by omega));have HM:=jA (λJ (hb:Below w.heap.size w J) (G:val ys=0)=>Zo s ao bo n c m d xs ys J (h.below hb) (k.below hb) hn hm (Or.inl G));have bb:Below w.heap.size w ((w.alloc (.cells #[.bool s,.slice ao n c,.slice bo m d] 32)).alloc (.cells #[.bool false,.slice none 0 0,.slice none 0 0] 32)):=((Below.refl w.heap.size w).alloc (Nat.le_refl _) _).alloc (by simp) _;by_cases G:val ys=0
 . (have hd:decide (val ys=0)=true:=by simpa using G);have HM:=jA (λ(J:World) (hb:Below w.heap.size w J)=>HM.o J hb G);rw[hd] at HZ;have HN:=jA (yd (x:=⟨s,val xs,val ys⟩) (Or.inr G));(have HD:Hid (dv ⟨s,val xs,val ys⟩=zero):=by show _=_;unfold dv;rw[if_pos G]);have HK:=jA hm;clear hd G h k;go_in;go_wp2_with fail;refine(HZ.o _ bb).mono ?_;rintro e w' ⟨rfl,rfl⟩;go_wp2_with fail;have kb:=Blk.new (w.alloc (.cells #[.bool s,.slice ao n c,.slice bo m d] 32)) 32 #[.bool false,.slice none 0 0,.slice none 0 0];rw[show(w.alloc (.cells #[.bool s,.slice ao n c,.slice bo m d] 32)).heap.size=w.heap.size+1 by simp] at kb;obtain⟨J,a5⟩:=jx4 (((w.alloc (.cells #[.bool s,.slice ao n c,.slice bo m d] 32)).alloc (.cells #[.bool false,.slice none 0 0,.slice none 0 0] 32)));rw[<- a5] at bb kb |-;refine(HM.o J bb).mono ?_;rintro e w2 ⟨V,Z,n2,c2,y,m2,d2,rfl,a3,o2,o3,a6,a7,a4⟩;have K2:=kb.on a4;have BB:=bb.trans (a4.mono bb.size);have h2:=o2.hi (g:=w.heap.size+1) kb.lt;have h3:=o3.hi (g:=w.heap.size+1) kb.lt;have O2:=jA (o2.low bb.size);have O3:=jA (o3.low bb.size);obtain⟨q0,q1,q2,q3,q4,q5⟩:=K2.store3 (.bool V) (.slice Z n2 c2);rw[HN.o] at a3;have HS:=jA a3;clear a3 a5 kb bb a4 o2 o3;go_wp2_with fail;have a1:=K2.put3 (.bool V) (.slice Z n2 c2) (.slice y m2 d2);have a0:=jK BB (Nat.le_succ _) (.bool V) (.slice Z n2 c2) (.slice y m2 d2);have p2:=O2.o.put3 h2 (.bool V) (.slice Z n2 c2) (.slice y m2 d2);have p3:=O3.o.put3 h3 (.bool V) (.slice Z n2 c2) (.slice y m2 d2);obtain⟨W,hW⟩:=jx4 (put3 w2 (w.heap.size+1) (.bool V) (.slice Z n2 c2) (.slice y m2 d2));change bodyPost _ _ _ _ _ (put3 w2 (w.heap.size+1) (.bool V) (.slice Z n2 c2) (.slice y m2 d2));rw[<- hW] at a1 a0 p2 p3 |-;obtain⟨r0,r1,r2⟩:=a1.cells3;refine bodyPost_ret (v:=.agg #[.bool V,.slice Z n2 c2,.slice y m2 d2]) (by simp[results,Tryz.results159,go_sem,r0,r1,r2]) rfl ?_;refine⟨V,Z,n2,c2,y,m2,d2,_,_,rfl,?_,p2.lst,p3.lst,a6,a7,λg hg _ i hi=>by have:=p2.base hi;omega,λg hg _ i hi=>by have:=p3.base hi;omega,a0⟩;rw[qP,qP,HS.o,HN.o,HD.o]
 . (have hd:decide (val ys=0)=false:=by simpa using G);rw[hd] at HZ;(have HD:Hid (dv ⟨s,val xs,val ys⟩=⟨s,val xs,val ys⟩):=by show _=_;unfold dv;rw[if_neg G]);have H:=jA h;have K:=jA k;clear hd G h k HM;go_in;go_wp2_with fail;refine(HZ.o _ bb).mono ?_;rintro e w' ⟨rfl,rfl⟩;clear bb;go_wp2_with fail;refine bodyPost_ret (v:=.agg #[.bool s,.slice ao n c,.slice bo m d]) (by simp[results,Tryz.results159,go_sem]) rfl ?_;have y:Below w.heap.size w ((w.alloc (.cells #[.bool s,.slice ao n c,.slice bo m d] 32)).alloc (.cells #[.bool s,.slice ao n c,.slice bo m d] 32)):=((Below.refl w.heap.size w).alloc (Nat.le_refl _) _).alloc (by simp) _;exact⟨s,ao,n,c,bo,m,d,xs,ys,rfl,HD.o.symm,H.o.below y,K.o.below y,Nat.le_refl _,by omega,λg _ h=>h,λg _ h=>h,y⟩
end Go.Proofs.YtkefajjcpcoajaaGreatDoor.Q
namespace Go.Proofs.YtkefajjcpcoajaaGreatDoor.Q
open Go.RowKit NatMath
def Pq(s:ByteArray)(n:Nat):Prop:=∀i (h:i<s.size),i<n->48<=(s[i]'h).toNat/\(s[i]'h).toNat<=57
def NF(s:ByteArray):Prop:=Pq s s.size/\∃h:0<s.size,s.size=1\/(s[0]'h).toNat≠48
noncomputable def zg (s:ByteArray):Bool:=@decide (NF s) (Classical.propDecidable _)
end Go.Proofs.YtkefajjcpcoajaaGreatDoor.Q
/-
  nat.Parse.
-/
namespace Go.Proofs.YtkefajjcpcoajaaGreatDoor.Q
open Go.RowKit NatMath
theorem NG(k:Nat):∀V,V<10 ^ (k+1)->(Lib.decDigits V).length<=k+1:=by
 induction k with
 | zero=>intro V h;rw[Lib.decDigits_one (by simpa using h)];exact Nat.le_refl _
 | succ k ih =>
  intro V h;by_cases m:V<10
  . rw[Lib.decDigits_one m];simp
  . rw[jc (by omega),List.length_append,List.length_singleton];have:=ih (V / 10) (by rw[Nat.pow_succ] at h;omega);omega
theorem Dr(V:Nat):(⟨(Lib.decDigits V).toArray⟩:ByteArray).size=(Lib.decDigits V).length:=by simp[ByteArray.size]
