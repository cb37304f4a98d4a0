/- -/
import Derived.Test.YtkefajjcpcoajaaGreatDoorPkA0
import Derived.Deep.RegionHeld3
import Derived.Deep.RegionLaw
import Derived.Deep.LoopGhost
import Derived.Deep.DeepCutAuto
import Derived.Test.YtkefajjcpcoajaaGreatDoorPkA11
import Derived.Test.YtkefajjcpcoajaaGreatDoorPkA14
import Derived.Test.YtkefajjcpcoajaaGreatDoorPkA15
import Derived.Test.YtkefajjcpcoajaaGreatDoorPkA16
import Derived.Test.YtkefajjcpcoajaaGreatDoorPkA17
import Derived.Test.YtkefajjcpcoajaaGreatDoorPkA27
set_option linter.all false
set_option maxRecDepth 100000
set_option maxHeartbeats 3200000
namespace Go.Proofs.YtkefajjcpcoajaaGreatDoor.Q
open Go.RowKit NatMath
theorem ZW(x:Nat)(w:World)(hx:x<1048576) :
    Calls Tryz.prog 151 #[.int .i64 x] w λe w'=>∃ao' n' c',e=.returned (.slice ao' n' c')/\OwnT w.heap.size w' ao' n' c' (qZ x)/\Below w.heap.size w w':=by
 obtain⟨i0,hi,a6,a3,a5⟩:=info_parts Zk;have V:=jA (za x 20 hx);have h0:OwnT w.heap.size w none 0 0 []:=OwnT.nil _ _;go_in;go_wp2_with fail;go_loopw [0,3] (λi s3 wr=>∃ (r m d:Nat) (a:Option Addr) (L:List Bool),r<1048576/\i=.int .i64 r/\s3=.slice a m d/\OwnT w.heap.size wr a m d L/\Hid (L++qZ r=qZ x)/\Below w.heap.size w wr)
   (λi _ _=>(intOf i).toNat)
 case atStart=>exact⟨x,0,0,none,[],hx,rfl,rfl,h0,rfl,Below.refl _ _⟩
 case round =>
  obtain⟨r,m,d,a,L,hr,rfl,rfl,G,hL,hb⟩:=hrel;clear h0;have hm:m<=20:=by
   have h1:=congrArg List.length hL.o;have h2:=V.o;have h3:=G.len;rw[List.length_append] at h1;omega
  by_cases Z:r=0
  . subst Z;have e:=hL.o;rw[jJ,List.append_nil] at e;rw[e] at G;go_wp2_with fail;go_ret;exact⟨a,m,d,rfl,G,hb⟩
  . obtain⟨b,H⟩:=jx2 (decide (r % 2=1));have a7:(((r:Int) % 2) == 1)=b:=by
     rw[H.o];by_cases e:r % 2=1
     . rw[decide_eq_true e];simp;omega
     . rw[decide_eq_false e];simp;omega
    (have a8:decide ((0:Int)<(r:Int))=true:=by simp;omega);have a4:Hid ((L++[b])++qZ (r / 2)=qZ x):=by
     show(L++[b])++qZ (r / 2)=qZ x;rw[<- hL.o,xS Z,H.o,List.append_assoc];rfl
    have HC:=jA (World.ownsRow.alloc G (.cells #[Value.bool b] 4));have HO:=jA G;have a0:=hb.size;have HB:=jA hb;(have a1:Hid (m+1<=maxLen):=by show m+1<=maxLen;unfold maxLen;omega);clear G hb;go_wp2_with (at_builtin;refine wpList_append_own _ rfl _ _ 156 rfl w.heap.size 4 i0 (.bool false) 1 1 Tryz.underlying156 hi a6 a3 a5 rfl (by decide) _ _ _ rfl HC.o ⟨wr.heap.size,0,none⟩ 1 1 [.bool b] rfl rfl ?c1 ?c2 a1.o ?c4 ?c5 ?_);case c1 =>
     intro t u ht
     match t,ht with
     | 0,ht=>simp at ht;subst ht;simp[Addr.add]
    (case c2=>intro u hu;simp at hu;subst hu;rfl);(case c4=>omega);(case c5=>simp;omega);intro v2 w1 y J _;obtain⟨a2,d2,rfl⟩:=xR y;have o2:OwnT w.heap.size w1 a2 (m+1) d2 (L++[b]):=by
     show w1.ownsRow _ _ _ _ _ _;rw[List.map_append];exact y
    have b2:=(HB.o.alloc a0 (.cells #[Value.bool b] 4)).grown J (by simp;omega) (λg hg=>(HO.o.lt g hg).1);clear y J HC HO HB;go_wp2_with fail;go_roundw;(case rel=>exact⟨r / 2,m+1,d2,a2,L++[b],by omega,by go_num,rfl,o2,a4.o,b2⟩);case measure=>simp[intOf];omega
theorem UR{v:Nat}(h:(qZ v).length=0):v=0:=by
 rcases Nat.eq_zero_or_pos v with h0|h0
 . exact h0
 . rw[xS (by omega)] at h;simp at h
theorem PH(ao bo:Option Addr)(n c m d u v:Nat)(w:World)(h:LstB w ao n c (qZ u))(k:LstB w bo m d (qZ v))(hn:n<=1048576)(hm:m<=1048576) :
    Calls Tryz.prog 207 #[.slice ao n c,.slice bo m d] w λe w'=>∃a1 n1 c1,e=.returned (.slice a1 n1 c1)/\OwnT w.heap.size w' a1 n1 c1 (qZ (Nat.gcd u v))/\Below w.heap.size w w':=by
 have b1:=h.room;have b3:=h.cap;go_in;go_wp2_with fail;go_loopg [0,1] v (λy s t wr=>∃ (x l f l2 f2:Nat) (a b:Option Addr),l<=1048576/\l2<=1048576/\s=.slice a l f/\t=.slice b l2 f2/\LstB wr a l f (qZ x)/\LstB wr b l2 f2 (qZ y)/\Hid (Nat.gcd x y=Nat.gcd u v)/\Below w.heap.size w wr)
 case atStart=>exact⟨u,n,c,m,d,ao,bo,hn,hm,rfl,rfl,h,k,rfl,Below.refl _ _⟩
 case round =>
  obtain⟨x,l,f,l2,f2,a,b,hl,a8,rfl,rfl,V,H,hg,hw⟩:=hrel;have b5:=V.room;have b7:=V.cap;have b8:=H.room;have b6:=H.cap;have G:=jA H.len;by_cases h0:l2=0
  . subst h0;have hy:gk=0:=UR G.o;subst hy;have e:=hg.o;rw[Nat.gcd_zero_right] at e;have ht:=yF _ _ _ _ wr V (by omega);rw[qx,e] at ht;have a5:=jA ht;have J:=jA hw;clear ht V H hw e;go_wp2_with fail;refine a5.o.mono ?_;rintro e w2 ⟨a2,n2,c2,rfl,Z,b2⟩;go_wp2_with fail;go_ret;exact⟨a2,n2,c2,rfl,Z.low J.o.size,kO J.o b2 J.o.size⟩
  . (have b0:0<l2:=by omega);have hy:gk≠0:=by
     intro h;subst h;have:=G.o;rw[jJ] at this;exact h0 this.symm
    have hd:=Yv _ _ _ _ _ _ _ _ wr V H (by omega) (by omega) (by rw[qx];omega);rw[qx,qx] at hd;have HD:=jA hd;have HB:=jA H;have J:=jA hw;have a4:Hid (Nat.gcd gk (x % gk)=Nat.gcd u v):=by
     show Nat.gcd gk (x % gk)=Nat.gcd u v;rw[<- hg.o,Nat.gcd_comm x gk,Nat.gcd_rec gk x,Nat.gcd_comm]
    have a3:=Nat.mod_lt x (Nat.pos_of_ne_zero hy);have a0:=jA a3;clear hd V H hw a3;go_wp2_with fail;refine HD.o.mono ?_;rintro e w2 ⟨a1,n1,c1,a2,n2,c2,rfl,o1,Z,b2⟩;have b4:n2<=l2:=by
     have h1:=xT (qZ gk);rw[qx,G.o] at h1;exact Z.len ▸ za (x % gk) l2 (by have:=a0.o;omega)
    have a6:=jA Z.lst;have a7:=jA (HB.o.below b2);have a9:=jA (kO J.o b2 J.o.size);clear o1 Z b2 HD;go_wp2_with fail;(go_roundg (x % gk));(case measure=>exact a0.o);case rel=>exact⟨gk,l2,f2,n2,c2,b,a2,a8,by omega,rfl,rfl,a7.o,a6.o,a4,a9.o⟩
end Go.Proofs.YtkefajjcpcoajaaGreatDoor.Q
namespace Go.Proofs.YtkefajjcpcoajaaGreatDoor.Q
open Go.RowKit NatMath RatMath
variable {B n c:Nat}{w:World}{ao:Option Addr}{xs:List Bool}
theorem OwnT.grown{w':World}{row:Option Nat}(h:OwnT B w ao n c xs)(hg:w.grownBy w' row)(hne:∀a,ao=some a->row≠some a.block):OwnT B w' ao n c xs:=by
 refine World.ownsRow.kept h hg ?_;rcases h.cases with ⟨rfl,rfl,rfl,rfl⟩|⟨q,rfl,_⟩
 . exact Or.inl rfl
 . exact Or.inr (λe=>hne _ rfl e.symm)
theorem OwnT.put3(h:OwnT B w ao n c xs){g:Nat}(hne:∀a,ao=some a->g≠a.block)(u0 u1 u2:Value):OwnT B (put3 w g u0 u1 u2) ao n c xs :=
 h.grown (gE w g u0 u1 u2) (λa ha=>by simpa using hne a ha)
theorem OwnT.hi(h:OwnT B w ao n c xs){g:Nat}(hg:g<B):∀a,ao=some a->g≠a.block:=by
 intro a m;rcases h.cases with ⟨h0,_⟩|⟨q,hq,h1,_⟩
 . rw[h0] at m;cases m
 . rw[hq] at m;cases m;show g≠q;omega
theorem Xs(s:Bool)(ao bo:Option Addr)(n c m d X Y:Nat)(w:World)(h:LstB w ao n c (qZ X))(k:LstB w bo m d (qZ Y))(hn:n<=1000000)(hm:m<=1000000) :
    Calls Tryz.prog 153 #[.bool s,.slice ao n c,.slice bo m d] w λe w'=>∃s' a n' c' b m' d',e=.returned (.agg #[.bool s',.slice a n' c',.slice b m' d'])/\s'=(nf ⟨s,X,Y⟩).s/\OwnT w.heap.size w' a n' c' (qZ (nf ⟨s,X,Y⟩).p)/\OwnT w.heap.size w' b m' d' (qZ (nf ⟨s,X,Y⟩).q)/\Below w.heap.size w w':=by
 have a0:=h.len;have a7:=k.len;have d3:=h.room;have d6:=h.cap;have d2:=k.room;have d8:=k.cap;have HG:=jA (λw1 (hb:Below w.heap.size w w1)=>PH ao bo n c m d X Y w1 (h.below hb) (k.below hb) (by omega) (by omega));have H:=jA h;have K:=jA k;have kZ:=Blk.new w 158 #[.bool false,.slice none 0 0,.slice none 0 0];have bb:=(Below.refl w.heap.size w).alloc (Nat.le_refl _) (.cells #[.bool false,.slice none 0 0,.slice none 0 0] 158);obtain⟨W0,Z⟩:=jx4 (w.alloc (.cells #[.bool false,.slice none 0 0,.slice none 0 0] 158));rw[<- Z] at kZ bb;clear h k;by_cases hx:X=0
 . (have b7:n=0:=by rw[<- a0,hx,jJ];rfl);have HN:=jA (yd (x:=⟨s,X,Y⟩) (Or.inl hx));clear a0 a7 H HG;subst b7;clear hx;go_in;go_wp2_with fail;rw[<- Z];clear Z;refine(ZW 1 _ (by omega)).mono ?_;rintro e w2 ⟨V,n2,c2,rfl,o2,b2⟩;have k2:=kZ.on b2;have BB:=bb.trans (b2.mono bb.size);have h2:=o2.hi (g:=w.heap.size) kZ.lt;have c8:=o2.bound (k:=1) (by decide);have O2:=jA (o2.low bb.size);obtain⟨s0,s1,s2,s3,s4,s5⟩:=k2.store3 (.bool false) (.slice none 0 0);clear kZ o2 b2 bb;go_wp2_with fail;have J:=k2.put3 (.bool false) (.slice none 0 0) (.slice V n2 c2);have y:=jK BB (Nat.le_refl _) (.bool false) (.slice none 0 0) (.slice V n2 c2);have p2:=O2.o.put3 h2 (.bool false) (.slice none 0 0) (.slice V n2 c2);obtain⟨W,hW⟩:=jx4 (put3 w2 w.heap.size (.bool false) (.slice none 0 0) (.slice V n2 c2));change bodyPost _ _ _ _ _ (put3 w2 w.heap.size (.bool false) (.slice none 0 0) (.slice V n2 c2));rw[<- hW] at J y p2 |-;obtain⟨r0,r1,r2⟩:=J.cells3;refine bodyPost_ret (v:=.agg #[.bool false,.slice none 0 0,.slice V n2 c2]) (by simp[results,Tryz.results153,go_sem,r0,r1,r2]) rfl ?_;refine⟨_,none,0,0,V,n2,c2,rfl,by rw[HN.o];rfl,?_,?_,y⟩
   . rw[HN.o,show zero.p=0 from rfl,jJ];exact OwnT.nil _ _
   . rw[HN.o,show zero.q=1 from rfl];exact p2
 have b7:n≠0:=by rw[<- a0,xS hx];simp
 have d4:((n:Int) == 0)=false:=by simp;omega
 by_cases hy:Y=0
 . (have b5:m=0:=by rw[<- a7,hy,jJ];rfl);have HN:=jA (yd (x:=⟨s,X,Y⟩) (Or.inr hy));clear a0 a7 K HG;subst b5;clear hx hy;go_in;go_wp2_with fail;rw[<- Z];clear Z;refine(ZW 1 _ (by omega)).mono ?_;rintro e w2 ⟨V,n2,c2,rfl,o2,b2⟩;have k2:=kZ.on b2;have BB:=bb.trans (b2.mono bb.size);have h2:=o2.hi (g:=w.heap.size) kZ.lt;have c8:=o2.bound (k:=1) (by decide);have O2:=jA (o2.low bb.size);obtain⟨s0,s1,s2,s3,s4,s5⟩:=k2.store3 (.bool false) (.slice none 0 0);clear kZ o2 b2 bb;go_wp2_with fail;have J:=k2.put3 (.bool false) (.slice none 0 0) (.slice V n2 c2);have y:=jK BB (Nat.le_refl _) (.bool false) (.slice none 0 0) (.slice V n2 c2);have p2:=O2.o.put3 h2 (.bool false) (.slice none 0 0) (.slice V n2 c2);obtain⟨W,hW⟩:=jx4 (put3 w2 w.heap.size (.bool false) (.slice none 0 0) (.slice V n2 c2));change bodyPost _ _ _ _ _ (put3 w2 w.heap.size (.bool false) (.slice none 0 0) (.slice V n2 c2));rw[<- hW] at J y p2 |-;obtain⟨r0,r1,r2⟩:=J.cells3;refine bodyPost_ret (v:=.agg #[.bool false,.slice none 0 0,.slice V n2 c2]) (by simp[results,Tryz.results153,go_sem,r0,r1,r2]) rfl ?_;refine⟨_,none,0,0,V,n2,c2,rfl,by rw[HN.o];rfl,?_,?_,y⟩
   . rw[HN.o,show zero.p=0 from rfl,jJ];exact OwnT.nil _ _
   . rw[HN.o,show zero.q=1 from rfl];exact p2
 . (have b5:m≠0:=by rw[<- a7,xS hy];simp);(have d5:((m:Int) == 0)=false:=by simp;omega);have HN:=jA (XU (x:=⟨s,X,Y⟩) hx hy);have a8:0<Nat.gcd X Y:=Nat.gcd_pos_of_pos_left _ (Nat.pos_of_ne_zero hx);have a9:(qZ (Nat.gcd X Y)).length<=n:=by
    rw[<- a0];rcases Nat.lt_or_ge (qZ X).length (qZ (Nat.gcd X Y)).length with h1|h1
    . have:=gA h1;have:=Nat.gcd_le_left Y (Nat.pos_of_ne_zero hx);omega
    . exact h1
   obtain⟨G,hG⟩:=jx2 (Nat.gcd X Y);rw[<- hG.o] at HG a8 a9;have b8:=jA a8;have d1:=jA a9;clear a0 a7 hx hy a8 a9;go_in;go_wp2_with fail;rw[<- Z];clear Z;refine(HG.o W0 bb).mono ?_;rintro e w2 ⟨V,n2,c2,rfl,o2,b2⟩;have k2:=kZ.on b2;have BB:=bb.trans (b2.mono bb.size);(have d7:n2<=n:=by rw[<- o2.len];exact d1.o);have D:=o2.lst;have b0:=Yv ao V n c n2 c2 (qZ X) (qZ G) w2 (H.o.below BB) D (by omega) (by omega) (by rw[qx];exact b8.o);rw[qx,qx] at b0;have b9:=jA b0;clear b0 o2 b2 kZ;go_wp2_with fail;refine b9.o.mono ?_;rintro e w3 ⟨a3,n3,c3,a4,n4,c4,rfl,o3,_,b3⟩;have a1:=BB.trans (b3.mono BB.size);have k3:=k2.on b3;have D3:=D.below b3;have h3:=o3.hi (g:=w.heap.size) k2.lt;have O3:=o3.low BB.size;have b1:=Yv bo V m d n2 c2 (qZ Y) (qZ G) w3 (K.o.below a1) D3 (by omega) (by omega) (by rw[qx];exact b8.o);rw[qx,qx] at b1;have b6:=jA b1;clear b1 o3 b3 k2 D D3 b9;go_wp2_with fail;refine b6.o.mono ?_;rintro e w4 ⟨a5,n5,c5,a6,n6,c6,rfl,o5,_,b4⟩;have d0:=a1.trans (b4.mono a1.size);have k4:=k3.on b4;have c7:=jA (O3.kept b4);have h5:=o5.hi (g:=w.heap.size) k3.lt;have O5:=jA (o5.low a1.size);obtain⟨s0,s1,s2,s3,s4,s5⟩:=k4.store3 (.bool s) (.slice a3 n3 c3);clear o5 b4 k3 b6 O3 BB a1 bb;go_wp2_with fail;have J:=k4.put3 (.bool s) (.slice a3 n3 c3) (.slice a5 n5 c5);have y:=jK d0 (Nat.le_refl _) (.bool s) (.slice a3 n3 c3) (.slice a5 n5 c5);have p3:=c7.o.put3 h3 (.bool s) (.slice a3 n3 c3) (.slice a5 n5 c5);have p5:=O5.o.put3 h5 (.bool s) (.slice a3 n3 c3) (.slice a5 n5 c5);obtain⟨W,hW⟩:=jx4 (put3 w4 w.heap.size (.bool s) (.slice a3 n3 c3) (.slice a5 n5 c5));change bodyPost _ _ _ _ _ (put3 w4 w.heap.size (.bool s) (.slice a3 n3 c3) (.slice a5 n5 c5));rw[<- hW] at J y p3 p5 |-;obtain⟨r0,r1,r2⟩:=J.cells3;refine bodyPost_ret (v:=.agg #[.bool s,.slice a3 n3 c3,.slice a5 n5 c5]) (by simp[results,Tryz.results153,go_sem,r0,r1,r2]) rfl ?_;refine⟨_,a3,n3,c3,a5,n5,c5,rfl,by rw[HN.o],?_,?_,y⟩
   . rw[HN.o,<- hG.o];exact p3
   . rw[HN.o,<- hG.o];exact p5
theorem Pw(s:Bool)(ao bo:Option Addr)(n c m d X Y:Nat)(w:World)(h:LstB w ao n c (qZ X))(k:LstB w bo m d (qZ Y))(hn:n<=1000000)(hm:m<=1000000) :
    Calls Tryz.prog 183 #[.agg #[.bool s,.slice ao n c,.slice bo m d]] w λe w'=>∃a n' c' b m' d',e=.returned (.agg #[.bool s,.slice a n' c',.slice b m' d'])/\Own 144 .u32 w.heap.size w' a n' c' (qL X)/\Own 144 .u32 w.heap.size w' b m' d' (qL Y)/\Below w.heap.size w w':=by
 have H:=jA h;have K:=jA k;clear h k;go_in;go_wp2_with fail;have kA:=Blk.new w 158 #[.bool s,.slice ao n c,.slice bo m d];have kZ:=Blk.new (w.alloc (.cells #[.bool s,.slice ao n c,.slice bo m d] 158)) 32 #[.bool false,.slice none 0 0,.slice none 0 0];have bb:Below w.heap.size w ((w.alloc (.cells #[.bool s,.slice ao n c,.slice bo m d] 158)).alloc (.cells #[.bool false,.slice none 0 0,.slice none 0 0] 32)):=((Below.refl w.heap.size w).alloc (Nat.le_refl _) _).alloc (by simp) _;replace kA:=kA.alloc (.cells #[.bool false,.slice none 0 0,.slice none 0 0] 32);rw[show(w.alloc (.cells #[.bool s,.slice ao n c,.slice bo m d] 158)).heap.size=w.heap.size+1 by simp] at kZ;obtain⟨W0,a5⟩:=jx4 ((w.alloc (.cells #[.bool s,.slice ao n c,.slice bo m d] 158)).alloc (.cells #[.bool false,.slice none 0 0,.slice none 0 0] 32));rw[<- a5] at kA kZ bb |-;clear a5;obtain⟨g2,a2⟩:=jx4 (w.heap.size+1);rw[<- a2] at kZ |-;have a7:w.heap.size<=g2:=by omega
 have a9:w.heap.size≠g2:=by omega
 have b0:g2≠w.heap.size:=by omega
 clear a2;have DA:Hid (Blk W0.drew w.heap.size 158 #[.bool s,.slice ao n c,.slice bo m d]):=kA;have DZ:Hid (Blk W0.drew g2 32 #[.bool false,.slice none 0 0,.slice none 0 0]):=kZ;have DB:Hid (Below w.heap.size w W0.drew):=bb.drew;obtain⟨y0,y1,y2⟩:=kA.cells3;clear kA kZ bb;go_region_held3 (λw'=>w'.cell? ⟨w.heap.size,0,none⟩=some (.bool s)/\w'.cell? ⟨w.heap.size,1,none⟩=some (.slice ao n c)/\w'.cell? ⟨w.heap.size,2,none⟩=some (.slice bo m d)) (go_keep) (first
   | (go_at_call_of 223 (Value.slice ao n c);refine(Pn ao n c (qZ X) W0.drew (H.o.below DB.o) (by omega)).mono ?_;rintro e v1 ⟨J,G,c3,rfl,o3,B1⟩;have A1:=DA.o.on B1;obtain⟨z0,z1,z2⟩:=A1.cells3;have Z1:=DZ.o.on B1;have y:=DB.o.trans (B1.mono DB.o.size))
   | (go_at_call 223;refine(Pn bo m d (qZ Y) v1 (K.o.below y) (by omega)).mono ?_;rintro e v2 ⟨V,Z,c4,rfl,o4,B2⟩;have A2:=A1.on B2;obtain⟨k0,k1,k2⟩:=A2.cells3;have Z2:=Z1.on B2;have a6:=y.trans (B2.mono y.size);have a8:=o3.kept B2;obtain⟨q0,q1,q2,q3,q4,q5⟩:=Z2.store3 (.bool s) (.slice J G c3)))
 go_wp2_with fail;have h3:=o3.hi (g:=g2) DZ.o.lt;have h4:=o4.hi (g:=g2) Z1.lt;have O3:=a8.low DB.o.size;have O4:=o4.low y.size;rw[qx] at O3 O4;have a1:=Z2.put3 (.bool s) (.slice J G c3) (.slice V Z c4);have a0:=jK a6 a7 (.bool s) (.slice J G c3) (.slice V Z c4);have p3:=O3.put3 h3 (.bool s) (.slice J G c3) (.slice V Z c4);have p4:=O4.put3 h4 (.bool s) (.slice J G c3) (.slice V Z c4);obtain⟨W,hW⟩:=jx4 (put3 v2 g2 (.bool s) (.slice J G c3) (.slice V Z c4));change bodyPost _ _ _ _ _ (put3 v2 g2 (.bool s) (.slice J G c3) (.slice V Z c4));rw[<- hW] at a1 a0 p3 p4 |-;obtain⟨r0,r1,r2⟩:=a1.cells3;refine bodyPost_ret (v:=.agg #[.bool s,.slice J G c3,.slice V Z c4]) (by simp[results,Tryz.results183,go_sem,r0,r1,r2]) rfl ?_;exact⟨J,G,c3,V,Z,c4,rfl,p3,p4,a0⟩
end Go.Proofs.YtkefajjcpcoajaaGreatDoor.Q
/-
  electionlaw02.Short,electionlaw02.is.
-/
namespace Go.Proofs.YtkefajjcpcoajaaGreatDoor.Q
open Go.RowKit NatMath RatMath
theorem Fj(n:Nat)(w:World)(hn:n<=18446744073709551615) :
    Calls Tryz.prog 225 #[.int .u64 n] w λe w'=>∃a n' c',e=.returned (.slice a n' c')/\OwnT w.heap.size w' a n' c' (qZ n)/\Below w.heap.size w w':=by
 go_in;go_wp2_with fail;have bb:=(Below.refl w.heap.size w).alloc (Nat.le_refl _) (.cells #[.int .u32 ((n:Int) % 4294967296),.int .u32 ((n:Int) / 4294967296)] 144);have G:(Lit.int .u32 ((n:Int) % 4294967296)).wf=true:=xL (by omega) (by omega);have J:(Lit.int .u32 ((n:Int) / 4294967296)).wf=true:=xL (by omega) (by omega);have m:Own 144 .u32 w.heap.size (w.alloc (.cells #[.int .u32 ((n:Int) % 4294967296),.int .u32 ((n:Int) / 4294967296)] 144)) (some ⟨w.heap.size,0,none⟩) 2 2 [(n:Int) % 4294967296,(n:Int) / 4294967296]:=by
  refine⟨World.ownsRow_lit w #[.int .u32 ((n:Int) % 4294967296),.int .u32 ((n:Int) / 4294967296)] 2 (Nat.le_refl _) (by unfold maxLen;omega) rfl,?_⟩;intro y V;simp at V;rcases V with rfl|rfl
  . exact G
  . exact J
 have hv:val [(n:Int) % 4294967296,(n:Int) / 4294967296]=n:=by
  show((n:Int) % 4294967296).toNat+4294967296*(((n:Int) / 4294967296).toNat+4294967296*0)=n;omega
 have H:=Mn _ _ _ _ _ m.lst (by omega);rw[hv] at H;refine H.mono ?_;rintro e w1 ⟨a,n',c',rfl,o,Z⟩;have o:=o.low bb.size;have BB:=bb.trans (Z.mono bb.size);clear H m bb Z;go_wp2_with fail;go_ret;exact⟨a,n',c',rfl,o,BB⟩
theorem Px(x:Int)(w:World)(x0 : -9223372036854775808<=x)(x1:x<=9223372036854775807) :
    Calls Tryz.prog 185 #[.int .i64 x] w λe w'=>∃s a n c b m d,e=.returned (.agg #[.bool s,.slice a n c,.slice b m d])/\s=(nf ⟨decide (x<0),x.natAbs,1⟩).s/\OwnT w.heap.size w' a n c (qZ (nf ⟨decide (x<0),x.natAbs,1⟩).p)/\OwnT w.heap.size w' b m d (qZ (nf ⟨decide (x<0),x.natAbs,1⟩).q)/\Below w.heap.size w w':=by
 obtain⟨m,a7⟩:=jx2 (x.natAbs);have hm:m<=18446744073709551615:=by rw[a7.o];omega
 obtain⟨z,hz⟩:=jx2 (nf ⟨decide (x<0),x.natAbs,1⟩);rw[<- hz.o];by_cases hx:x<0
 . (have hd:decide (x<0)=true:=by simpa using hx);(have HV:Hid (-(x+1)+1=(m:Int)):=by show _=_;rw[a7.o];omega);(have HS:Hid (nf ⟨true,m,1⟩=z):=by show _=_;rw[hz.o,a7.o,hd]);go_in;go_wp2_with fail;have kZ:=Blk.new w 158 #[.bool false,.slice none 0 0,.slice none 0 0];have bb:=(Below.refl w.heap.size w).alloc (Nat.le_refl _) (.cells #[.bool false,.slice none 0 0,.slice none 0 0] 158);obtain⟨W0,a8⟩:=jx4 (w.alloc (.cells #[.bool false,.slice none 0 0,.slice none 0 0] 158));rw[<- a8] at kZ bb |-;clear a8;rw[HV.o];refine(Fj m W0 hm).mono ?_;rintro e w1 ⟨a1,n1,c1,rfl,o1,B1⟩;have k1:=kZ.on B1;have b1:=bb.trans (B1.mono bb.size);have L1:=jA o1;have N1:=o1.bound (k:=64) (by have:(2:Nat) ^ 64=18446744073709551616:=(by decide);omega);clear kZ bb B1 o1;go_wp2_with fail;refine(ZW 1 w1 (by omega)).mono ?_;rintro e w2 ⟨a2,n2,c2,rfl,o2,B2⟩;have k2:=k1.on B2;have b2:=b1.trans (B2.mono b1.size);have N2:=o2.bound (k:=1) (by decide);have a4:=Xs true a1 a2 n1 c1 n2 c2 m 1 w2 (L1.o.lst.below B2) o2.lst (by omega) (by omega);rw[HS.o] at a4;have HN:=jA a4;clear a4 k1 b1 B2 o2 L1;go_wp2_with fail;refine HN.o.mono ?_;rintro e w3 ⟨G,H,y,c3,Z,m3,J,rfl,a6,o3,o4,a5⟩;have K3:=k2.on a5;have b0:=b2.trans (a5.mono b2.size);have h3:=o3.hi (g:=w.heap.size) k2.lt;have h4:=o4.hi (g:=w.heap.size) k2.lt;have O3:=jA (o3.low b2.size);have O4:=jA (o4.low b2.size);obtain⟨q0,q1,q2,q3,q4,q5⟩:=K3.store3 (.bool G) (.slice H y c3);have a9:=jA a6;clear a6 a5 o3 o4 b2 k2 HN;go_wp2_with fail;have a0:=K3.put3 (.bool G) (.slice H y c3) (.slice Z m3 J);have V:=jK b0 (Nat.le_refl _) (.bool G) (.slice H y c3) (.slice Z m3 J);have p3:=O3.o.put3 h3 (.bool G) (.slice H y c3) (.slice Z m3 J);have p4:=O4.o.put3 h4 (.bool G) (.slice H y c3) (.slice Z m3 J);obtain⟨W,hW⟩:=jx4 (put3 w3 w.heap.size (.bool G) (.slice H y c3) (.slice Z m3 J));change bodyPost _ _ _ _ _ (put3 w3 w.heap.size (.bool G) (.slice H y c3) (.slice Z m3 J));rw[<- hW] at a0 V p3 p4 |-;obtain⟨r0,r1,r2⟩:=a0.cells3;refine bodyPost_ret (v:=.agg #[.bool G,.slice H y c3,.slice Z m3 J]) (by simp[results,Tryz.results185,go_sem,r0,r1,r2]) rfl ?_;exact⟨G,H,y,c3,Z,m3,J,rfl,a9.o,p3,p4,V⟩
 . (have hd:decide (x<0)=false:=by simpa using hx);(have HV:Hid (x=(m:Int)):=by show _=_;rw[a7.o];omega);(have HS:Hid (nf ⟨false,m,1⟩=z):=by show _=_;rw[hz.o,a7.o,hd]);go_in;go_wp2_with fail;have kZ:=Blk.new w 158 #[.bool false,.slice none 0 0,.slice none 0 0];have bb:=(Below.refl w.heap.size w).alloc (Nat.le_refl _) (.cells #[.bool false,.slice none 0 0,.slice none 0 0] 158);obtain⟨W0,a8⟩:=jx4 (w.alloc (.cells #[.bool false,.slice none 0 0,.slice none 0 0] 158));rw[<- a8] at kZ bb |-;clear a8;rw[HV.o];refine(Fj m W0 hm).mono ?_;rintro e w1 ⟨a1,n1,c1,rfl,o1,B1⟩;have k1:=kZ.on B1;have b1:=bb.trans (B1.mono bb.size);have L1:=jA o1;have N1:=o1.bound (k:=64) (by have:(2:Nat) ^ 64=18446744073709551616:=(by decide);omega);clear kZ bb B1 o1;go_wp2_with fail;refine(ZW 1 w1 (by omega)).mono ?_;rintro e w2 ⟨a2,n2,c2,rfl,o2,B2⟩;have k2:=k1.on B2;have b2:=b1.trans (B2.mono b1.size);have N2:=o2.bound (k:=1) (by decide);have a4:=Xs false a1 a2 n1 c1 n2 c2 m 1 w2 (L1.o.lst.below B2) o2.lst (by omega) (by omega);rw[HS.o] at a4;have HN:=jA a4;clear a4 k1 b1 B2 o2 L1;go_wp2_with fail;refine HN.o.mono ?_;rintro e w3 ⟨G,H,y,c3,Z,m3,J,rfl,a6,o3,o4,a5⟩;have K3:=k2.on a5;have b0:=b2.trans (a5.mono b2.size);have h3:=o3.hi (g:=w.heap.size) k2.lt;have h4:=o4.hi (g:=w.heap.size) k2.lt;have O3:=jA (o3.low b2.size);have O4:=jA (o4.low b2.size);obtain⟨q0,q1,q2,q3,q4,q5⟩:=K3.store3 (.bool G) (.slice H y c3);have a9:=jA a6;clear a6 a5 o3 o4 b2 k2 HN;go_wp2_with fail;have a0:=K3.put3 (.bool G) (.slice H y c3) (.slice Z m3 J);have V:=jK b0 (Nat.le_refl _) (.bool G) (.slice H y c3) (.slice Z m3 J);have p3:=O3.o.put3 h3 (.bool G) (.slice H y c3) (.slice Z m3 J);have p4:=O4.o.put3 h4 (.bool G) (.slice H y c3) (.slice Z m3 J);obtain⟨W,hW⟩:=jx4 (put3 w3 w.heap.size (.bool G) (.slice H y c3) (.slice Z m3 J));change bodyPost _ _ _ _ _ (put3 w3 w.heap.size (.bool G) (.slice H y c3) (.slice Z m3 J));rw[<- hW] at a0 V p3 p4 |-;obtain⟨r0,r1,r2⟩:=a0.cells3;refine bodyPost_ret (v:=.agg #[.bool G,.slice H y c3,.slice Z m3 J]) (by simp[results,Tryz.results185,go_sem,r0,r1,r2]) rfl ?_;exact⟨G,H,y,c3,Z,m3,J,rfl,a9.o,p3,p4,V⟩
theorem PI(s1 s2:Bool)(a1 b1 a2 b2:Option Addr)(n1 c1 m1 d1 n2 c2 m2 d2 P1 Q1 P2 Q2 K:Nat)(w:World)
    (h1:LstB w a1 n1 c1 (qZ P1)) (k1:LstB w b1 m1 d1 (qZ Q1)) (h2:LstB w a2 n2 c2 (qZ P2)) (k2:LstB w b2 m2 d2 (qZ Q2)) (hn1:P1<2 ^ K) (hm1:Q1<2 ^ K) (hn2:P2<2 ^ K) (hm2:Q2<2 ^ K) (hK:K<=400000) :
    Calls Tryz.prog 184 #[.agg #[.bool s1,.slice a1 n1 c1,.slice b1 m1 d1],.agg #[.bool s2,.slice a2 n2 c2,.slice b2 m2 d2]] w λe w'=>∃s a n c b m d,e=.returned (.agg #[.bool s,.slice a n c,.slice b m d])/\s=(nf (ml ⟨s1,P1,Q1⟩ (inv ⟨s2,P2,Q2⟩))).s/\OwnT w.heap.size w' a n c (qZ (nf (ml ⟨s1,P1,Q1⟩ (inv ⟨s2,P2,Q2⟩))).p)/\OwnT w.heap.size w' b m d (qZ (nf (ml ⟨s1,P1,Q1⟩ (inv ⟨s2,P2,Q2⟩))).q)/\Below w.heap.size w w':=by
 obtain⟨z,hz⟩:=jx1 (nf ⟨s1 != s2,P1*Q2,Q1*P2⟩);rw[show nf (ml ⟨s1,P1,Q1⟩ (inv ⟨s2,P2,Q2⟩))=z from hz.o];have X1:P1*Q2<2 ^ (K+K):=Zl hn1 hm2;have X2:Q1*P2<2 ^ (K+K):=Zl hm1 hn2;have d0:=jA X1;have b3:=jA X2;have b7:=jA (za P1 K hn1);have c6:=jA (za Q1 K hm1);have b6:=jA (za P2 K hn2);have b4:=jA (za Q2 K hm2);have e1:n1<=K:=by rw[<- h1.len];exact b7.o
 have e2:m1<=K:=by rw[<- k1.len];exact c6.o
 have e3:n2<=K:=by rw[<- h2.len];exact b6.o
 have e4:m2<=K:=by rw[<- k2.len];exact b4.o
 have H1:=jA h1;have K1:=jA k1;have H2:=jA h2;have K2:=jA k2;clear h1 k1 h2 k2 X1 X2 hn1 hm1 hn2 hm2;go_in;go_wp2_with fail;obtain⟨W0,b0,kA,kB,kZ,bb⟩:=Mu w 158 #[.bool s1,.slice a1 n1 c1,.slice b1 m1 d1] #[.bool s2,.slice a2 n2 c2,.slice b2 m2 d2] #[.bool false,.slice none 0 0,.slice none 0 0];rw[<- b0];clear b0;obtain⟨G,a8⟩:=jx4 (w.heap.size+1+1);rw[<- a8] at kZ |-;have b9:w.heap.size<=G:=by omega
 have d6:w.heap.size≠G:=by omega
 have d7:G≠w.heap.size:=by omega
 have d3:w.heap.size+1≠G:=by omega
 have d4:G≠w.heap.size+1:=by omega
 clear a8;have DA:Hid (Blk W0.drew w.heap.size 158 #[.bool s1,.slice a1 n1 c1,.slice b1 m1 d1]):=kA;have DC:Hid (Blk W0.drew (w.heap.size+1) 158 #[.bool s2,.slice a2 n2 c2,.slice b2 m2 d2]):=kB;have DZ:Hid (Blk W0.drew G 158 #[.bool false,.slice none 0 0,.slice none 0 0]):=kZ;have DB:Hid (Below w.heap.size w W0.drew):=bb.drew;obtain⟨y0,y1,y2⟩:=kA.cells3;obtain⟨f3,f1,f4⟩:=kB.cells3;clear kA kB kZ bb;go_region_held3 (λw'=>w'.cell? ⟨w.heap.size,0,none⟩=some (.bool s1)/\w'.cell? ⟨w.heap.size,1,none⟩=some (.slice a1 n1 c1)/\w'.cell? ⟨w.heap.size,2,none⟩=some (.slice b1 m1 d1)/\w'.cell? ⟨w.heap.size+1,0,none⟩=some (.bool s2)/\w'.cell? ⟨w.heap.size+1,1,none⟩=some (.slice a2 n2 c2)/\w'.cell? ⟨w.heap.size+1,2,none⟩=some (.slice b2 m2 d2)) (go_keep) (first
   | (go_at_call_of 224 (Value.slice a1 n1 c1);have y:=Dl a1 b2 n1 c1 m2 d2 _ _ W0.drew (H1.o.below DB.o) (K2.o.below DB.o) (by omega) (by omega);rw[qx,qx] at y;refine y.mono ?_;rintro e v1 ⟨a3,n3,c3,rfl,o3,B1⟩;clear y;have A1:=DA.o.on B1;have C1:=DC.o.on B1;obtain⟨z0,z1,z2⟩:=A1.cells3;obtain⟨e7,e9,f0⟩:=C1.cells3;have Z1:=DZ.o.on B1;have H:=DB.o.trans (B1.mono DB.o.size);have e6:=o3.bound d0.o)
   | (go_at_call 224;have y:=Dl b1 a2 m1 d1 n2 c2 _ _ v1 (K1.o.below H) (H2.o.below H) (by omega) (by omega);rw[qx,qx] at y;refine y.mono ?_;rintro e v2 ⟨a4,n4,c4,rfl,o4,B2⟩;clear y;have A2:=A1.on B2;have C2:=C1.on B2;obtain⟨k0,k1,k2⟩:=A2.cells3;obtain⟨f2,d9,e8⟩:=C2.cells3;have Z2:=Z1.on B2;have V:=H.trans (B2.mono H.size);have c7:=o3.kept B2;have e5:=o4.bound b3.o)
   | (go_at_call 153;have a7:=Xs (s1 != s2) a3 a4 n3 c3 n4 c4 (P1*Q2) (Q1*P2) v2 c7.lst o4.lst (by omega) (by omega);rw[hz.o] at a7;refine a7.mono ?_;rintro e v3 ⟨s5,Z,J,c5,b5,m5,d5,rfl,a9,o5,o6,B3⟩;clear a7;have A3:=A2.on B3;have C3:=C2.on B3;obtain⟨l0,l1,l2⟩:=A3.cells3;obtain⟨f5,d8,e0⟩:=C3.cells3;have Z3:=Z2.on B3;have c8:=V.trans (B3.mono V.size);obtain⟨q0,q1,q2,q3,q4,q5⟩:=Z3.store3 (.bool s5) (.slice Z J c5);have b8:=jA a9;clear a9))
 go_wp2_with fail;have h3:=o5.hi (g:=G) Z2.lt;have h4:=o6.hi (g:=G) Z2.lt;have O3:=o5.low V.size;have O4:=o6.low V.size;have a6:=Z3.put3 (.bool s5) (.slice Z J c5) (.slice b5 m5 d5);have a0:=jK c8 b9 (.bool s5) (.slice Z J c5) (.slice b5 m5 d5);have p3:=O3.put3 h3 (.bool s5) (.slice Z J c5) (.slice b5 m5 d5);have p4:=O4.put3 h4 (.bool s5) (.slice Z J c5) (.slice b5 m5 d5);obtain⟨W,hW⟩:=jx4 (put3 v3 G (.bool s5) (.slice Z J c5) (.slice b5 m5 d5));change bodyPost _ _ _ _ _ (put3 v3 G (.bool s5) (.slice Z J c5) (.slice b5 m5 d5));rw[<- hW] at a6 a0 p3 p4 |-;obtain⟨r0,r1,r2⟩:=a6.cells3;refine bodyPost_ret (v:=.agg #[.bool s5,.slice Z J c5,.slice b5 m5 d5]) (by simp[results,Tryz.results184,go_sem,r0,r1,r2]) rfl ?_;exact⟨s5,Z,J,c5,b5,m5,d5,rfl,b8.o,p3,p4,a0⟩
end Go.Proofs.YtkefajjcpcoajaaGreatDoor.Q
/-
  electionref02.Mul,Add.
-/
namespace Go.Proofs.YtkefajjcpcoajaaGreatDoor.Q
open Go.RowKit NatMath RatMath
end Go.Proofs.YtkefajjcpcoajaaGreatDoor.Q
/-
  electionref02.Cmp.
-/
namespace Go.Proofs.YtkefajjcpcoajaaGreatDoor.Q
open Go.RowKit NatMath RatMath
end Go.Proofs.YtkefajjcpcoajaaGreatDoor.Q
namespace Go.Proofs.YtkefajjcpcoajaaGreatDoor
open Go.RowKit Lx
variable {w:World}{g b:Nat}{v:List UInt8}
theorem yy{w1 w2:World}(h:w.grownBy w1 (some g))(k:w1.grownBy w2 (some b))(hb:w.heap.size<=b):w.grownBy w2 (some g) :=
 ⟨k.os.trans h.os,k.tape.trans h.tape,k.output.trans h.output,Nat.le_trans h.size k.size,λi hi hr=>(k.block i (Nat.lt_of_lt_of_le hi h.size) (λe=>by injection e with e;omega)).trans (h.block i hi hr)⟩
theorem kl{w':World}{t:TypeId}{cs:List Value}(h:Arr w g t cs)(hg:w.grownBy w' (some b))(hne:g≠b):Arr w' g t cs:=(hg.block g h.lt (λe=>hne (by injection e))).trans h
theorem St.gr{w':World}{D:List Value}{f:Nat×Int}(h:St w g D f)(hg:w.grownBy w' (some b))(hne:g≠b):St w' g D f:=⟨kl h.arr hg hne,h.len⟩
theorem W6{B:Nat}{a:Option Addr}{n c:Nat}{xs:List Int}(h:Q.Own 144 .u32 B w a n c xs):IntL .u32 (qS B [144]) w a n c xs:=Row.own (s:=1) h.1 (by decide)
theorem Me(a:Nat)(w:World)(h1:1<=a)(h2:a<=999999):Calls Tryz.prog 185 #[.int .i64 (a:Int)] w λe w'=>∃p n c q m d,e=.returned (.agg #[.bool false,.slice p n c,.slice q m d])/\Q.LstB w' p n c (Q.NatMath.qZ a)/\Q.LstB w' q m d (Q.NatMath.qZ 1)/\Below w.heap.size w w':=by
 have h:=Q.Px (a:Int) w (by omega) (by omega);have e:Q.RatMath.nf ⟨decide ((a:Int)<0),((a:Int)).natAbs,1⟩=⟨false,a,1⟩:=by
  rw[decide_eq_false (by omega),Int.natAbs_natCast];unfold Q.RatMath.nf;rw[if_neg (by show ¬ (a=0\/1=0);omega)];show(⟨false,a / Nat.gcd a 1,1 / Nat.gcd a 1⟩:Q.RatMath.R)=_;rw[Nat.gcd_one_right,Nat.div_one,Nat.div_one]
 rw[e] at h;refine h.mono ?_;rintro x w' ⟨s,p,n,c,q,m,d,rfl,rfl,G,y,B⟩;exact⟨p,n,c,q,m,d,rfl,G.lst,y.lst,B⟩
theorem PJ(a b:Nat)(p q r t:Option Addr)(n c m d i j k l:Nat)(w:World)(ha:a<=999999)(hb:b<=999999)(h1:Q.LstB w p n c (Q.NatMath.qZ a))(h2:Q.LstB w q m d (Q.NatMath.qZ 1))(h3:Q.LstB w r i j (Q.NatMath.qZ b))(h4:Q.LstB w t k l (Q.NatMath.qZ 1)) :
    Calls Tryz.prog 184 #[.agg #[.bool false,.slice p n c,.slice q m d],.agg #[.bool false,.slice r i j,.slice t k l]] w λe w'=>∃p n c q m d,e=.returned (.agg #[.bool false,.slice p n c,.slice q m d])/\Q.LstB w' p n c (Q.NatMath.qZ (Q.RatMath.nf ⟨false,a,b⟩).p)/\Q.LstB w' q m d (Q.NatMath.qZ (Q.RatMath.nf ⟨false,a,b⟩).q)/\Below w.heap.size w w':=by
 have h:=Q.PI false false p q r t n c m d i j k l a 1 b 1 20 w h1 h2 h3 h4 (by omega) (by omega) (by omega) (by omega) (by omega);have e:Q.RatMath.ml ⟨false,a,1⟩ (Q.RatMath.inv ⟨false,b,1⟩)=⟨false,a,b⟩:=by
  unfold Q.RatMath.ml Q.RatMath.inv;simp
 rw[e] at h;refine h.mono ?_;rintro x w' ⟨s,p,n,c,q,m,d,rfl,G,H,y,B⟩;have:s=false:=by
  rw[G];unfold Q.RatMath.nf;split<;>rfl
 subst this;exact⟨p,n,c,q,m,d,rfl,H.lst,y.lst,B⟩
theorem Py{a:Nat}(ha:a<=999999)(hb:b<=999999):(Q.RatMath.nf ⟨false,a,b⟩).p<2 ^ 20/\(Q.RatMath.nf ⟨false,a,b⟩).q<2 ^ 20:=by
 unfold Q.RatMath.nf;split
 . exact⟨by decide,by decide⟩
 . exact⟨Nat.lt_of_le_of_lt (Nat.div_le_self _ _) (by show a<_;omega),Nat.lt_of_le_of_lt (Nat.div_le_self _ _) (by show b<_;omega)⟩
theorem Pz(X Y:Nat)(p q:Option Addr)(n c m d:Nat)(w:World)(hX:X<2 ^ 20)(hY:Y<2 ^ 20)(h1:Q.LstB w p n c (Q.NatMath.qZ X))(h2:Q.LstB w q m d (Q.NatMath.qZ Y)) :
    Calls Tryz.prog 183 #[.agg #[.bool false,.slice p n c,.slice q m d]] w λe w'=>∃uo un uc dO dn dc,e=.returned (.agg #[.bool false,.slice uo un uc,.slice dO dn dc])/\IntL .u32 (qS w.heap.size [144]) w' uo un uc (Q.NatMath.qL X)/\IntL .u32 (qS w.heap.size [144]) w' dO dn dc (Q.NatMath.qL Y)/\Below w.heap.size w w':=by
 have l1:=Q.NatMath.za X 20 hX;have l2:=Q.NatMath.za Y 20 hY;refine(Q.Pw false p q n c m d X Y w h1 h2 (by have:=h1.len;omega) (by have:=h2.len;omega)).mono ?_;rintro x w' ⟨a,G,V,b,J,H,rfl,Z,y,B⟩;exact⟨a,G,V,b,J,H,rfl,W6 Z,W6 y,B⟩
namespace Lx
theorem W9{j:Nat}{r:List UInt8}{d:UInt8}(h:v.drop j=d :: r)(hd:d.toNat=47)(hz:∀c∈v.take j,c.toNat≠47):ku v=v.take j/\kY v=v.drop (j+1)/\kG v=true:=by
 have e:v=v.take j++d :: r:=by rw[<- h,List.take_append_drop]
 have m:∀c∈v.take j,(!decide (c.toNat=47))=true:=λc y=>by simp[hz c y]
 refine⟨?_,?_,?_⟩
 . unfold ku
   conv=>lhs;rw[e]
   rw[List.takeWhile_append_of_pos m,List.takeWhile_cons,if_neg (by simp[hd]),List.append_nil]
 . unfold kY
   conv=>lhs;rw[e]
   rw[List.dropWhile_append_of_pos m,List.dropWhile_cons,if_neg (by simp[hd])];have:=congrArg List.tail h;rw[List.tail_drop] at this;exact this.symm
 . unfold kG;rw[List.any_eq_true];exact⟨d,by rw[e];simp,by simp[hd]⟩
theorem Gm(hz:∀c∈v,c.toNat≠47):jl v=5:=by
 have:kG v=false:=by
  unfold kG;rw[List.any_eq_false];exact λc m=>by simp[hz c m]
 unfold jl yC;rw[this,Bool.and_false];rfl
theorem Gn{j:Nat}{r:List UInt8}{d:UInt8}(h:v.drop j=d :: r)(hd:d.toNat=47)(hz:∀c∈v.take j,c.toNat≠47):jl v=if !(zg (v.take j)&&zg (v.drop (j+1))) then 5 else if zz (v.drop (j+1))=0||1000*zz (v.take j)<zz (v.drop (j+1))||zz (v.drop (j+1))<2*zz (v.take j) then 4 else 0:=by
 obtain⟨G,y,m⟩:=W9 h hd hz;have H:xF v=(zg (v.take j)&&zg (v.drop (j+1))):=by
  unfold xF;have:(v.any λc=>decide (c.toNat=47))=true:=m;rw[if_pos this];show(zg (ku v)&&zg (kY v))=_;rw[G,y]
 unfold jl yC;rw[G,y,m,H,Bool.and_true]
end Lx
