/- -/
import Derived.Test.YtkefajjcpcoajaaGreatDoorPkA0
import Derived.Deep.Onto
import Derived.Test.YtkefajjcpcoajaaGreatDoorPkA8
import Derived.Test.YtkefajjcpcoajaaGreatDoorPkA19
import Derived.Test.YtkefajjcpcoajaaGreatDoorPkA20
import Derived.Test.YtkefajjcpcoajaaGreatDoorPkA26
import Derived.Test.YtkefajjcpcoajaaGreatDoorPkA27
import Derived.Test.YtkefajjcpcoajaaGreatDoorPkA34
set_option linter.all false
set_option maxRecDepth 100000
set_option maxHeartbeats 25600000
namespace Go.Proofs.YtkefajjcpcoajaaGreatDoor
open Go.RowKit Lx
variable {w:World}
def FRow(B:Nat)(w:World)(ao:Option Addr)(n c:Nat)(fs:List zC):Prop:=∃us,w.ownsRow B 63 3 (.slice ao n c) n us/\FC (qS B [9]) w fs us
section
variable {B : Nat} {w w' : World} {ao : Option Addr} {n c : Nat} {fs : List zC}
theorem FRow.below(h:FRow B w ao n c fs)(hb:Below w.heap.size w w'):FRow B w' ao n c fs:=by
 obtain⟨us,y,m⟩:=h;exact⟨us,qQ y hb,m.keep (qE _ _) (qD _ hb)⟩
theorem FRow.lower{B':Nat}(h:FRow B w ao n c fs)(hB:B'<=B):FRow B' w ao n c fs:=by
 obtain⟨us,y,m⟩:=h;exact⟨us,World.ownsRow.mono y hB,m.mono (je hB (λ_ h=>h))⟩
theorem vk{m:Nat}(w:World)(B:Nat)(fs:List zC)(us:List Value)(h:FC (qS B [9]) w fs us)(hB:B<=w.heap.size)(hl:fs.length=m)(hm:m<=100):∃V,w.alloc (.cells us.toArray 63)=V/\FRow B V (some ⟨w.heap.size,0,none⟩) m m fs/\Below w.heap.size w V:=by
 have y:Below w.heap.size w (w.alloc (.cells us.toArray 63)):=(Below.refl _ _).alloc (Nat.le_refl _) _;have G:=h.len;refine⟨_,rfl,⟨us,?_,h.keep (qE _ _) (qD _ y)⟩,y⟩;have:=World.ownsRow_lit (e:=63) (base:=w.heap.size) (size:=3) w us.toArray m (Nat.le_refl _) (by unfold maxLen;omega) (by simp;omega);simpa using World.ownsRow.mono this hB
theorem FRow.app{m:Nat}{gs:List zC}{vs us:List Value}{ao':Option Addr}{c':Nat}(h1:w.ownsRow B 63 3 (.slice ao n c) n us)(h2:FC (qS B [9]) w fs us)(hx:FC (qS B [9]) w gs vs)
    (ho:w'.ownsRow B 63 3 (.slice ao' (n+m) c') (n+m) (us++vs)) (hg:w.grownBy w' (Value.slice ao n c).ownBlock):FRow B w' ao' (n+m) c' (fs++gs):=by
 have y:Keeps (qS B [9]) w w':=zS h1 hg (by decide);exact⟨_,ho,FC.append (h2.keep (qE _ _) y) (hx.keep (qE _ _) y)⟩
theorem FRow.row(h:FRow B w ao n c fs):FldS (qS B [9,63]) w ao n c fs:=by
 obtain⟨us,y,m⟩:=h;exact⟨us,(Row.own y (by decide)).mono (je (Nat.le_refl _) (by decide)),m.mono (je (Nat.le_refl _) (by decide))⟩
theorem FRow.box{g:Nat}{T:TypeId}{cs:List Value}(h:FRow B w ao n c fs)(hA:Arr w g T cs)(hT:T∉[9,63])(hg:w.grownBy w' (some g)):FRow B w' ao n c fs:=by
 obtain⟨us,m,y⟩:=h;simp only[List.mem_cons,List.not_mem_nil,or_false,not_or] at hT;exact⟨us,World.ownsRow.kept m hg (Or.inr (zI m hA hT.2)),y.keep (qE _ _) (zD hA (by simp[hT.1]) hg)⟩
end
theorem uW{B:Nat}{k:List UInt8}{vs:List (List UInt8)}{vo:Option Addr}{vn vc:Nat}{fs:List zC}{us:List Value}(h:StrL (qS B [9]) w vo vn vc vs)(hr:FC (qS B [9]) w fs us):FC (qS B [9]) w (⟨k,vs,0⟩ :: fs) (.string (stg k) :: .slice vo vn vc :: .int .i64 0 :: us):=⟨vo,vn,vc,us,rfl,h,hr⟩
theorem ym{B:Nat}:FC (qS B [9]) w [] []:=rfl
theorem Gz{U W Z:World}{b:Nat}{v0 v1 v2 v3 u0 u1 u2 u3:Value}{ao:Option Addr}{n c:Nat}{fs:List zC}(A:Arr W b 55 [v0,v1,v2,v3])(hZ:Hid (Z=put4 W b u0 u1 u2 u3))(F:FRow U.heap.size W ao n c fs)(D:Below U.heap.size U W)(HB:Below w.heap.size w U)(hle:w.heap.size<=b):Hid (FRow w.heap.size Z ao n c fs/\Below w.heap.size w Z):=by
 have y:=HB.trans (D.mono HB.size);have m:W.grownBy Z (some b):=by
  rw[hZ.o];exact qC (qC (qC (qM W b 0 u0) (qM _ b 1 u1)) (qM _ b 2 u2)) (qM _ b 3 u3)
 refine⟨(F.lower HB.size).box A (by decide) m,?_⟩;rw[hZ.o];exact(((y.setCell (p:=⟨_,0,none⟩) hle _).setCell (p:=⟨_,1,none⟩) hle _).setCell (p:=⟨_,2,none⟩) hle _).setCell (p:=⟨_,3,none⟩) hle _
def I64(x:Int):Prop := -9223372036854775808<=x/\x<=9223372036854775807
theorem QB(nm:List UInt8)(cs:List (List UInt8))(m se ra di ti ov sk:Int)(vo:Option Addr)(vn vc:Nat)(w:World)(h:StrL qU w vo vn vc cs)(hse:I64 se)(hra:I64 ra)(hdi:I64 di)(hn:vn<=4000000)(hT:Tabs w) :
    Calls Tryz.prog 93 #[.agg #[.string (stg nm),.slice vo vn vc,.int .i64 m,.int .i64 se,.int .i64 ra,.int .i64 di,.int .i64 ti,.int .i64 ov,.int .i64 sk]] w λe w'=>∃fo fn fc,e=.returned (.agg #[.string (stg qF),.string (stg nm),.slice fo fn fc,.int .i64 0])/\FRow w.heap.size w' fo fn fc (yN ⟨nm,cs,m,se,ra,di,ti,ov,sk⟩)/\Below w.heap.size w w':=by
 obtain⟨V,e1,AV,BV,hz⟩:=qG w 76 [.string (stg nm),.slice vo vn vc,.int .i64 m,.int .i64 se,.int .i64 ra,.int .i64 di,.int .i64 ti,.int .i64 ov,.int .i64 sk];obtain⟨U,e2,AU,BU,i1⟩:=qG V 55 [.string ⟨#[]⟩,.string ⟨#[]⟩,.slice none 0 0,.int .i64 0];obtain⟨KN,i4⟩:∃K,Hid (stg nm=K):=⟨_,rfl⟩;rw[i4.o] at e1 AV |-;have HT:=jA ((hT.below BV).below BU);have HL:Hid (∀W,Below U.heap.size U W->StrL qU W vo vn vc cs):=λW y=>StrL.below (StrL.below (StrL.below h BV) BU) y
 obtain⟨bb,e5⟩:∃b,w.heap.size=b:=⟨_,rfl⟩;rw[e5] at AV hz;rw[hz] at AU;have A0:=jA (AV.kept BU);have A1:=jA AU;have HB:Hid (Below w.heap.size w U):=BV.trans (BU.mono BV.size);have i7:Hid (w.heap.size<=bb+1):=by show _<=_;omega
 have o3:Hid (w.heap.size<=U.heap.size):=HB.o.size;have HM:=λW=>gz zG m W
 have b5:=λW=>gz xO ti W
 have b0:=λW=>gz zj ov W
 have c6:=λW=>gz kX sk W
 replace HM:Hid (∀W,jC 146 #[.string ⟨#[109,101,116,104,111,100]⟩,.int .i64 m] W λe w'=>∃vo vn vc,e=.returned (.agg #[.string ⟨#[109,101,116,104,111,100]⟩,.slice vo vn vc,.int .i64 0])/\StrL (qS W.heap.size [9]) w' vo vn vc [atI (jP zG) m]/\Below W.heap.size W w'):=HM;replace b5:Hid (∀W,jC 146 #[.string ⟨#[116,105,101,115]⟩,.int .i64 ti] W λe w'=>∃vo vn vc,e=.returned (.agg #[.string ⟨#[116,105,101,115]⟩,.slice vo vn vc,.int .i64 0])/\StrL (qS W.heap.size [9]) w' vo vn vc [atI (jP xO) ti]/\Below W.heap.size W w'):=b5;replace b0:Hid (∀W,jC 146 #[.string ⟨#[111,118,101,114,118,111,116,101]⟩,.int .i64 ov] W λe w'=>∃vo vn vc,e=.returned (.agg #[.string ⟨#[111,118,101,114,118,111,116,101]⟩,.slice vo vn vc,.int .i64 0])/\StrL (qS W.heap.size [9]) w' vo vn vc [atI (jP zj) ov]/\Below W.heap.size W w'):=b0;replace c6:Hid (∀W,jC 146 #[.string ⟨#[115,107,105,112]⟩,.int .i64 sk] W λe w'=>∃vo vn vc,e=.returned (.agg #[.string ⟨#[115,107,105,112]⟩,.slice vo vn vc,.int .i64 0])/\StrL (qS W.heap.size [9]) w' vo vn vc [atI (jP kX) sk]/\Below W.heap.size W w'):=c6;have g9:Hid (∀W,Below U.heap.size U W->Calls Tryz.prog 90 #[.string ⟨#[115,101,97,116,115]⟩,.int .i64 se] W λe w'=>∃vo vn vc,e=.returned (.agg #[.string ⟨#[115,101,97,116,115]⟩,.slice vo vn vc,.int .i64 0])/\StrL (qS W.heap.size [9]) w' vo vn vc [Lib.itoa se]/\Below W.heap.size W w'):=λW y=>xY ⟨#[115,101,97,116,115]⟩ se W hse.1 hse.2 (HT.o.below y)
 have i5:Hid (∀W,Below U.heap.size U W->Calls Tryz.prog 90 #[.string ⟨#[114,97,110,107,115]⟩,.int .i64 ra] W λe w'=>∃vo vn vc,e=.returned (.agg #[.string ⟨#[114,97,110,107,115]⟩,.slice vo vn vc,.int .i64 0])/\StrL (qS W.heap.size [9]) w' vo vn vc [Lib.itoa ra]/\Below W.heap.size W w'):=λW y=>xY ⟨#[114,97,110,107,115]⟩ ra W hra.1 hra.2 (HT.o.below y)
 have j0:Hid (∀W,Below U.heap.size U W->Calls Tryz.prog 90 #[.string ⟨#[100,105,103,105,116,115]⟩,.int .i64 di] W λe w'=>∃vo vn vc,e=.returned (.agg #[.string ⟨#[100,105,103,105,116,115]⟩,.slice vo vn vc,.int .i64 0])/\StrL (qS W.heap.size [9]) w' vo vn vc [Lib.itoa di]/\Below W.heap.size W w'):=λW y=>xY ⟨#[100,105,103,105,116,115]⟩ di W hdi.1 hdi.2 (HT.o.below y)
 have h6:Hid (∀W,Below U.heap.size U W->Calls Tryz.prog 92 #[.slice vo vn vc] W λe w'=>∃ro m d,e=.returned (.slice ro m d)/\StrL (qS W.heap.size [9]) w' ro m d cs/\Below W.heap.size W w'):=λW y=>Zt cs vo vn vc W (HL.o W y) (by omega)
 have h2:Hid (∀W vo vn vc,jC 91 #[.string ⟨#[99,97,110,100,105,100,97,116,101,115]⟩,.slice vo vn vc] W λe w'=>e=.returned (.agg #[.string ⟨#[99,97,110,100,105,100,97,116,101,115]⟩,.slice vo vn vc,.int .i64 0])/\Below W.heap.size W w'):=λW vo vn vc=>gy _ vo vn vc W
 obtain⟨o1,p2,o4,o7,o6,o0,o9,n8,o8⟩:=A0.o.c9;have c8:yN ⟨nm,cs,m,se,ra,di,ti,ov,sk⟩=([dsC zG m,fN zO se,fN kp ra]++(if m=2 then [fN qY di] else []))++[dsC xO ti,dsC zj ov,dsC kX sk,⟨zm,cs,0⟩]:=rfl;rw[c8];obtain⟨mb,f5⟩:∃x,((m:Int) == 2)=x:=⟨_,rfl⟩;have hG:Hid (mb=true/\m=2\/mb=false/\¬ m=2):=by
  by_cases hm:m=2
  . exact Or.inl ⟨by rw[<- f5,hm];rfl,hm⟩
  . exact Or.inr ⟨by rw[<- f5];simpa using hm,hm⟩
 obtain⟨TL,g0⟩:∃x,Hid ([dsC xO ti,dsC zj ov,dsC kX sk,⟨zm,cs,0⟩]=x):=⟨_,rfl⟩;obtain⟨MD,a9⟩:∃x,Hid ((if m=2 then [fN qY di] else [])=x):=⟨_,rfl⟩;rw[g0.o,a9.o];have a4:Hid (∀W,Below U.heap.size U W->W.cell? ⟨bb,2,none⟩=some (.int .i64 m)/\W.cell? ⟨bb,3,none⟩=some (.int .i64 se)/\W.cell? ⟨bb,4,none⟩=some (.int .i64 ra)):=λW y=>⟨(A0.o.kept y).cell 2,(A0.o.kept y).cell 3,(A0.o.kept y).cell 4⟩
 have HD:Below U.heap.size U U.drew:=(Below.refl _ _).drew;clear h hT AV AU BV BU i1 hse hra hdi hn c8;go_in;go_wp2_with fail;go_region_held3 (λw'=>w'.cell? ⟨bb,2,none⟩=some (.int .i64 m)/\w'.cell? ⟨bb,3,none⟩=some (.int .i64 se)/\w'.cell? ⟨bb,4,none⟩=some (.int .i64 ra)) (go_keep) (first
   | (go_at_call 146;(with_reducible refine(HM.o U.drew).mono ?_);rintro e v1 ⟨a1,n1,c1,rfl,S1,B1⟩;have C1:Below U.heap.size U v1:=HD.trans (B1.mono HD.size);obtain⟨f1,g5,g1⟩:=a4.o v1 C1;have T1:StrL (qS U.heap.size [9]) v1 a1 n1 c1 [atI (jP zG) m]:=S1)
   | (go_at_call 90;(with_reducible refine(g9.o v1 C1).mono ?_);rintro e v2 ⟨a2,n2,c2,rfl,S2,B2⟩;have C2:Below U.heap.size U v2:=C1.trans (B2.mono C1.size);obtain⟨c7,g7,f0⟩:=a4.o v2 C2;have g3:=qT T1 B2;have d9:=qw S2 C1.size)
   | (go_at_call 90;(with_reducible refine(i5.o v2 C2).mono ?_);rintro e v3 ⟨a3,n3,c3,rfl,S3,B3⟩;have C3:Below U.heap.size U v3:=C2.trans (B3.mono C2.size);obtain⟨f3,f9,e0⟩:=a4.o v3 C3;have f2:=qT g3 B3;have e8:=qT d9 B3;have g2:=qw S3 C2.size;obtain⟨X,e4,FR,BX⟩:=vk (m:=3) v3 U.heap.size [dsC zG m,fN zO se,fN kp ra] _ (uW f2 (uW e8 (uW g2 ym))) C3.size rfl (by decide:3<=100);replace e4:v3.alloc (.cells #[.string ⟨#[109,101,116,104,111,100]⟩,.slice a1 n1 c1,.int .i64 0,.string ⟨#[115,101,97,116,115]⟩,.slice a2 n2 c2,.int .i64 0,.string ⟨#[114,97,110,107,115]⟩,.slice a3 n3 c3,.int .i64 0] 63)=X:=e4;obtain⟨j2,h3,i8⟩:=a4.o X (C3.trans (BX.mono C3.size))))
 all_goals
   have CX:Hid (Below U.heap.size U X):=C3.trans (BX.mono C3.size);have b9:=jA FR;clear FR BX C3 C2 C1 B1 B2 B3 S1 S2 S3 T1 g3 d9 f2 e8 g2 f1 g5 g1 c7 g7 f0 f3 f9 e0;have z5:X.cell? ⟨bb,5,none⟩=some (.int .i64 di):=(A0.o.kept CX.o).cell 5;obtain⟨us,OR,d6⟩:=b9.o;(go_upto_if 16 with fail);(go_cut [3] from 17 to 22 (λs3 wx=>∃ (fo:Option Addr) (K fc:Nat),s3=.slice fo K fc/\K<=4/\Hid (FRow U.heap.size wx fo K fc ([dsC zG m,fN zO se,fN kp ra]++MD))/\Hid (Below U.heap.size U wx)/\Hid (Arr wx bb 76 [.string KN,.slice vo vn vc,.int .i64 m,.int .i64 se,.int .i64 ra,.int .i64 di,.int .i64 ti,.int .i64 ov,.int .i64 sk])));case first =>
    rcases hG.o with ⟨rfl,hm⟩|⟨rfl,hm⟩
    . (have b6:Hid (MD=[fN qY di]):=by show _=_;rw[<- a9.o,if_pos hm]);clear hm;go_wp2_with (first
        | (go_at_call 90;(with_reducible refine(j0.o X CX.o).mono ?_);rintro e v5 ⟨a5,n5,c5,rfl,S5,J⟩;have C5:=jA (CX.o.trans (J.mono CX.o.size));have T5:=qw S5 CX.o.size;have b7:=qQ OR J;have h9:=FC.keep (qE _ _) (qD _ J) d6;have a6:=C5.o.size;clear S5 J)
        | (at_builtin;refine xM (vs:=[.string ⟨#[100,105,103,105,116,115]⟩,.slice a5 n5 c5,.int .i64 0]) Tryz.underlying53 Wj rfl (by decide) (by decide) b7 a6 (by omega) rfl (by intro u hu;simp at hu;rcases hu with rfl|rfl|rfl<;>rfl) rfl rfl ?_;intro fo fc Y O6 G6 B6;have g4:FRow U.heap.size Y fo 4 fc ([dsC zG m,fN zO se,fN kp ra]++[fN qY di]):=FRow.app (m:=1) b7 h9 (uW (k:=qY) T5 ym) O6 G6;have b8:=jA g4;have CY:Hid (Below U.heap.size U Y):=C5.o.trans B6;have G:=jA ((A0.o.kept C5.o).row b7 (by decide) G6);clear g4 O6 G6 B6))
      (go_meet);case rel=>exact⟨_,_,_,rfl,by decide,by show FRow _ _ _ _ _ _;rw[b6.o];exact b8.o,CY,G⟩
    . (have b6:Hid (MD=[]):=by show _=_;rw[<- a9.o,if_neg hm]);clear hm;go_wp2_with fail;(go_meet);case rel=>exact⟨_,_,_,rfl,by decide,by show FRow _ _ _ _ _ _;rw[b6.o,List.append_nil];exact b9.o,CX,jA (A0.o.kept CX.o)⟩
   case rest =>
   clear OR d6 b9 CX j2 h3 i8 z5 us;obtain⟨fo,K,fc,rfl,hK,b8,CY,G⟩:=hcut;obtain⟨Y,hY⟩:∃x,x=wc:=⟨_,rfl⟩;subst hY;have h5:Hid (Arr Y (bb+1) 55 [.string ⟨#[]⟩,.string ⟨#[]⟩,.slice none 0 0,.int .i64 0]):=A1.o.kept CY.o;obtain⟨f6,e7,d7⟩:=b8.o;(have H:Hid (∀W,Below Y.heap.size Y W->W.cell? ⟨bb,1,none⟩=some (.slice vo vn vc)/\W.cell? ⟨bb,6,none⟩=some (.int .i64 ti)/\W.cell? ⟨bb,7,none⟩=some (.int .i64 ov)/\W.cell? ⟨bb,8,none⟩=some (.int .i64 sk)):=λW y=>⟨(G.o.kept y).cell 1,(G.o.kept y).cell 6,(G.o.kept y).cell 7,(G.o.kept y).cell 8⟩);have E0:Below Y.heap.size Y Y.drew:=(Below.refl _ _).drew;obtain⟨p0,o5,p1,n9⟩:=H.o Y.drew E0;have DY:Below U.heap.size U Y.drew:=CY.o.drew;have f7:Y.drew.ownsRow U.heap.size 63 3 (.slice fo K fc) K f6:=e7;have f8:FC (qS U.heap.size [9]) Y.drew ([dsC zG m,fN zO se,fN kp ra]++MD) f6:=FC.keep (qE _ _) (qD _ E0) d7;go_wp2_with fail;go_region_held3 (λw'=>w'.cell? ⟨bb,1,none⟩=some (.slice vo vn vc)/\w'.cell? ⟨bb,6,none⟩=some (.int .i64 ti)/\w'.cell? ⟨bb,7,none⟩=some (.int .i64 ov)/\w'.cell? ⟨bb,8,none⟩=some (.int .i64 sk)) (go_keep) (first
     | (go_at_call 146;(with_reducible refine(b5.o Y.drew).mono ?_);rintro e u1 ⟨b1,m1,d1,rfl,S1,B1⟩;have D1:Below U.heap.size U u1:=DY.trans (B1.mono DY.size);have E1:=E0.trans (B1.mono E0.size);obtain⟨n0,k6,k2,k9⟩:=H.o u1 E1;have O1:=qQ f7 B1;have F1:=FC.keep (qE _ _) (qD _ B1) f8;have P1:=qw S1 DY.size)
     | (go_at_call 146;(with_reducible refine(b0.o u1).mono ?_);rintro e u2 ⟨b2,m2,d2,rfl,S2,B2⟩;have D2:Below U.heap.size U u2:=D1.trans (B2.mono D1.size);have E2:=E1.trans (B2.mono E1.size);obtain⟨k0,k5,m6,j5⟩:=H.o u2 E2;have O2:=qQ O1 B2;have F2:=FC.keep (qE _ _) (qD _ B2) F1;have i0:=qT P1 B2;have h7:=qw S2 D1.size)
     | (go_at_call 146;(with_reducible refine(c6.o u2).mono ?_);rintro e u3 ⟨b3,m3,d3,rfl,S3,B3⟩;have D3:Below U.heap.size U u3:=D2.trans (B3.mono D2.size);have E3:=E2.trans (B3.mono E2.size);obtain⟨l8,k3,l0,l4⟩:=H.o u3 E3;have O3:=qQ O2 B3;have F3:=FC.keep (qE _ _) (qD _ B3) F2;have i3:=qT i0 B3;have h0:=qT h7 B3;have i6:=qw S3 D2.size)
     | (go_at_call 92;(with_reducible refine(h6.o u3 D3).mono ?_);rintro e u4 ⟨b4,m4,d4,rfl,S4,B4⟩;have D4:Below U.heap.size U u4:=D3.trans (B4.mono D3.size);have E4:=E3.trans (B4.mono E3.size);obtain⟨j3,l7,m9,l5⟩:=H.o u4 E4;have O4:=qQ O3 B4;have F4:=FC.keep (qE _ _) (qD _ B4) F3;have h1:=qT i3 B4;have h8:=qT h0 B4;have i2:=qT i6 B4;have h4:=qw S4 D3.size)
     | (go_at_call 91;(with_reducible refine(h2.o u4 b4 m4 d4).mono ?_);rintro e u5 ⟨rfl,J⟩;have D5:Below U.heap.size U u5:=D4.trans (J.mono D4.size);have E5:=E4.trans (J.mono E4.size);obtain⟨j4,l9,n4,n6⟩:=H.o u5 E5;have O5:=qQ O4 J;have F5:=FC.keep (qE _ _) (qD _ J) F4;have g6:=qT h1 J;have e3:=qT h8 J;have d0:=qT i2 J;have d8:=qT h4 J;obtain⟨Xa,e9,_,e6,_⟩:=qG u5 63 [.string ⟨#[116,105,101,115]⟩,.slice b1 m1 d1,.int .i64 0,.string ⟨#[111,118,101,114,118,111,116,101]⟩,.slice b2 m2 d2,.int .i64 0,.string ⟨#[115,107,105,112]⟩,.slice b3 m3 d3,.int .i64 0,.string ⟨#[99,97,110,100,105,100,97,116,101,115]⟩,.slice b4 m4 d4,.int .i64 0];have a6:=D5.size;obtain⟨l3,m8,k7,m7⟩:=H.o Xa (E5.trans (e6.mono E5.size)))
     | (refine Q0 (m:=4) (vs:=[.string ⟨#[116,105,101,115]⟩,.slice b1 m1 d1,.int .i64 0,.string ⟨#[111,118,101,114,118,111,116,101]⟩,.slice b2 m2 d2,.int .i64 0,.string ⟨#[115,107,105,112]⟩,.slice b3 m3 d3,.int .i64 0,.string ⟨#[99,97,110,100,105,100,97,116,101,115]⟩,.slice b4 m4 d4,.int .i64 0]) Tryz.underlying53 Wj rfl (by decide) (by decide) (by decide) (by decide) _ _ rfl rfl e9 O5 a6 (by omega) rfl (by intro u hu;simp at hu;rcases hu with rfl|rfl|rfl|rfl|rfl|rfl|rfl|rfl|rfl|rfl|rfl|rfl<;>rfl) rfl rfl ?_;intro a8 c9 Z9 O9 G9 B9;have f4:=FRow.app (m:=4) O5 F5 (uW (k:=xO) g6 (uW (k:=zj) e3 (uW (k:=kX) d0 (uW (k:=zm) d8 ym)))) O9 G9;have A9:=(G.o.kept E5).row O5 (by decide) G9;have d5:=(h5.o.kept E5).row O5 (by decide) G9;have n7:Z9.cell? ⟨bb,0,none⟩=some (.string KN):=A9.cell 0;have l6:Z9.cell? ⟨bb,1,none⟩=some (.slice vo vn vc):=A9.cell 1;have m0:Z9.cell? ⟨bb,6,none⟩=some (.int .i64 ti):=A9.cell 6;have k4:Z9.cell? ⟨bb,7,none⟩=some (.int .i64 ov):=A9.cell 7;have k1:Z9.cell? ⟨bb,8,none⟩=some (.int .i64 sk):=A9.cell 8;have D9:Below U.heap.size U Z9:=D5.trans B9))
   all_goals
     have FZ:=jA f4;have DZ:=jA D9;have a7:=jA d5;clear f4 D9 A9 d5 O9 G9 B9 E1 E2 E3 E4 E5 O5 F5 O4 F4 O3 F3 O2 F2 O1 F1 f7 f8 e7 d7 g6 e3 d0 d8 e6 e9 a6;go_wp2_with (go_at_call 89;refine(YF _ _ _ _ _ _).mono ?_;rintro e q1 ⟨rfl,Bq⟩;obtain⟨Z,m5,i9,AZ,q0,o2,q2,q3,q4,q5,q6,q7⟩:=yT (a7.o.kept Bq) (.string ⟨#[99,111,110,116,101,115,116]⟩) (.string KN) (.slice a8 (K+4) c9) (.int .i64 0);have r0:Z.cell? ⟨bb+1,0,none⟩=some (.string ⟨#[99,111,110,116,101,115,116]⟩):=AZ.cell 0;have r1:Z.cell? ⟨bb+1,1,none⟩=some (.string KN):=AZ.cell 1;have r2:Z.cell? ⟨bb+1,2,none⟩=some (.slice a8 (K+4) c9):=AZ.cell 2;have r3:Z.cell? ⟨bb+1,3,none⟩=some (.int .i64 0):=AZ.cell 3;have g8:=FRow.below FZ.o Bq;have j1:=DZ.o.trans (Bq.mono DZ.o.size);have a0:=Gz (a7.o.kept Bq) i9 g8 j1 HB.o i7.o);refine bodyPost_ret (v:=.agg #[.string ⟨#[99,111,110,116,101,115,116]⟩,.string KN,.slice a8 (K+4) c9,.int .i64 0]) (by simp[results,Tryz.results93,go_sem,r0,r1,r2,r3]) rfl ?_;exact⟨_,_,_,rfl,by rw[<- g0.o];have h:=a0.o.1;rw[List.append_assoc] at h;exact h,by first|exact a0.o.2|(rw[<- e5];exact a0.o.2)⟩
structure ul (x:Elc) (s:ESl):Prop where
 num:∀z∈x.rnum,0<=z/\z<=4294967295
 den:∀z∈x.rden,0<=z/\z<=4294967295
 n:s.un<=400000
 d:s.dn<=400000
theorem um{S:World->Nat->Prop}{ao:Option Addr}{n c:Nat}{xs:List Int}(h:IntL .u32 S w ao n c xs)(hw:∀z∈xs,0<=z/\z<=4294967295):Q.Lst .u32 w ao n c xs:=by
 refine⟨IntL.len h,Row.cap h,Row.room h,Row.isSome h,λi hi=>?_,λz m=>Q.xL (hw z m).1 (hw z m).2⟩;have y:=IntL.len h;have:=(Row.cell h i (.int .u32 (xs.getD i 0)) (by rw[List.getElem?_map,List.getD_eq_getElem?_getD,List.getElem?_eq_getElem (by omega)];rfl)).1;exact this
theorem CJ(B0 B1 B2 B3 B4 B5 B6 B7 B8:Bool)(x0 y0:ByteArray)(x2 x3 x4 x5 x6 x7 x8 y2 y3 y4 y5 y6 y7 y8:Int)(xo1 yo1:Option Addr)(xn1 xc1 yn1 yc1:Nat)(w:World)
    (t0:(x0.toList == y0.toList)=B0)
    (H1:Hid (∀W,Below w.heap.size w W->Calls Tryz.prog 49 #[.slice xo1 xn1 xc1,.slice yo1 yn1 yc1] W λe w'=>e=.returned (.bool B1)/\Below W.heap.size W w')) (t2:(x2 == y2)=B2) (t3:(x3 == y3)=B3) (t4:(x4 == y4)=B4) (t5:(x5 == y5)=B5) (t6:(x6 == y6)=B6) (t7:(x7 == y7)=B7) (t8:(x8 == y8)=B8) :
    Calls Tryz.prog 51 #[.agg #[.string x0,.slice xo1 xn1 xc1,.int .i64 x2,.int .i64 x3,.int .i64 x4,.int .i64 x5,.int .i64 x6,.int .i64 x7,.int .i64 x8],.agg #[.string y0,.slice yo1 yn1 yc1,.int .i64 y2,.int .i64 y3,.int .i64 y4,.int .i64 y5,.int .i64 y6,.int .i64 y7,.int .i64 y8]] w λe w'=>e=.returned (.bool (B0&&B1&&B2&&B3&&B4&&B5&&B6&&B7&&B8))/\Below w.heap.size w w':=by
 obtain⟨V,e1,AV,J,hz⟩:=qG w 76 [.string x0,.slice xo1 xn1 xc1,.int .i64 x2,.int .i64 x3,.int .i64 x4,.int .i64 x5,.int .i64 x6,.int .i64 x7,.int .i64 x8];obtain⟨U,e2,AU,G,H⟩:=qG V 76 [.string y0,.slice yo1 yn1 yc1,.int .i64 y2,.int .i64 y3,.int .i64 y4,.int .i64 y5,.int .i64 y6,.int .i64 y7,.int .i64 y8];have Z:=AV.kept G;obtain⟨u0,u1,u2,u3,u4,u5,u6,u7,u8⟩:=Z.c9;obtain⟨v0,v1,v2,v3,v4,v5,v6,v7,v8⟩:=AU.c9;have y:Hid (Below w.heap.size w U):=J.trans (G.mono J.size);clear Z AV AU J G hz H;go_in;iterate 10 all_goals
   (try (first|cases ‹B0=true› | cases ‹B1=true› | cases ‹B2=true› | cases ‹B3=true› | cases ‹B4=true› | cases ‹B5=true› | cases ‹B6=true› | cases ‹B7=true› | cases ‹B8=true›)
    go_wp2_with (first
     | (go_at_call 49;(with_reducible refine(H1.o U y.o).mono ?_);rintro e w0 ⟨rfl,m⟩;have b1:=qA u2 m;have a3:=qA v2 m;have a4:=qA u3 m;have a6:=qA v3 m;have a7:=qA u4 m;have b3:=qA v4 m;have a9:=qA u5 m;have a5:=qA v5 m;have b2:=qA u6 m;have a8:=qA v6 m;have a1:=qA u7 m;have b0:=qA v7 m;have a2:=qA u8 m;have a0:=qA v8 m;have C0:=jA (y.o.trans (m.mono y.o.size)))
     | fail))
 all_goals
   go_ret;refine⟨?_,by first|exact C0.o|exact y.o⟩
   first
     | rfl
     | (obtain rfl:=eq_false_of_ne_true ‹¬B0=true›;rfl)
     | (obtain rfl:=eq_false_of_ne_true ‹¬B1=true›;rfl)
     | (obtain rfl:=eq_false_of_ne_true ‹¬B2=true›;rfl)
     | (obtain rfl:=eq_false_of_ne_true ‹¬B3=true›;rfl)
     | (obtain rfl:=eq_false_of_ne_true ‹¬B4=true›;rfl)
     | (obtain rfl:=eq_false_of_ne_true ‹¬B5=true›;rfl)
     | (obtain rfl:=eq_false_of_ne_true ‹¬B6=true›;rfl)
     | (obtain rfl:=eq_false_of_ne_true ‹¬B7=true›;rfl)
     | (obtain rfl:=eq_false_of_ne_true ‹¬B8=true›;rfl)
theorem CK(B0 B1 B2:Bool)(x0 y0:ByteArray)(xo1 xo2 yo1 yo2:Option Addr)(xn1 xc1 xn2 xc2 yn1 yc1 yn2 yc2:Nat)(w:World)
    (t0:(x0.toList == y0.toList)=B0)
    (H1:Hid (∀W,Below w.heap.size w W->Calls Tryz.prog 105 #[.slice xo1 xn1 xc1,.slice yo1 yn1 yc1] W λe w'=>e=.returned (.bool B1)/\Below W.heap.size W w'))
    (H2:Hid (∀W,Below w.heap.size w W->Calls Tryz.prog 105 #[.slice xo2 xn2 xc2,.slice yo2 yn2 yc2] W λe w'=>e=.returned (.bool B2)/\Below W.heap.size W w')) :
    Calls Tryz.prog 53 #[.agg #[.string x0,.slice xo1 xn1 xc1,.slice xo2 xn2 xc2],.agg #[.string y0,.slice yo1 yn1 yc1,.slice yo2 yn2 yc2]] w λe w'=>e=.returned (.bool (B0&&B1&&B2))/\Below w.heap.size w w':=by
 obtain⟨V,e1,AV,Z,hz⟩:=qG w 60 [.string x0,.slice xo1 xn1 xc1,.slice xo2 xn2 xc2];obtain⟨U,e2,AU,H,J⟩:=qG V 60 [.string y0,.slice yo1 yn1 yc1,.slice yo2 yn2 yc2];have A0:=AV.kept H;obtain⟨u0,u1,u2⟩:=A0.c3;obtain⟨v0,v1,v2⟩:=AU.c3;have y:Hid (Below w.heap.size w U):=Z.trans (H.mono Z.size);clear A0 AV AU Z H hz J;go_in;iterate 4 all_goals
   (try (first|cases ‹B0=true› | cases ‹B1=true› | cases ‹B2=true›)
    go_wp2_with (first
     | (go_at_call 105;(with_reducible refine(H1.o U y.o).mono ?_);rintro e w0 ⟨rfl,G⟩;have a1:=qA u2 G;have a0:=qA v2 G;have m:=jA (y.o.trans (G.mono y.o.size)))
     | (go_at_call 105;(with_reducible refine(H2.o w0 m.o).mono ?_);rintro e w1 ⟨rfl,D1⟩;have C1:=jA (m.o.trans (D1.mono m.o.size)))
     | fail))
 all_goals
   go_ret;refine⟨?_,by first|exact C1.o|exact m.o|exact y.o⟩
   first
     | rfl
     | (obtain rfl:=eq_false_of_ne_true ‹¬B0=true›;rfl)
     | (obtain rfl:=eq_false_of_ne_true ‹¬B1=true›;rfl)
     | (obtain rfl:=eq_false_of_ne_true ‹¬B2=true›;rfl)
theorem Nc(x y:Cst)(uo zo:Option Addr)(un uc zn zc:Nat)(w:World)(h:StrL qU w uo un uc x.cands)(k:StrL qU w zo zn zc y.cands) :
    Calls Tryz.prog 51 #[.agg #[.string (stg x.name),.slice uo un uc,.int .i64 x.method,.int .i64 x.seats,.int .i64 x.ranks,.int .i64 x.digits,.int .i64 x.ties,.int .i64 x.over,.int .i64 x.skip],.agg #[.string (stg y.name),.slice zo zn zc,.int .i64 y.method,.int .i64 y.seats,.int .i64 y.ranks,.int .i64 y.digits,.int .i64 y.ties,.int .i64 y.over,.int .i64 y.skip]] w λe w'=>e=.returned (.bool (decide (x.name=y.name)&&decide (x.cands=y.cands)&&decide (x.method=y.method)&&decide (x.seats=y.seats)&&decide (x.ranks=y.ranks)&&decide (x.digits=y.digits)&&decide (x.ties=y.ties)&&decide (x.over=y.over)&&decide (x.skip=y.skip)))/\Below w.heap.size w w' :=
 CJ _ _ _ _ _ _ _ _ _ _ _ _ _ _ _ _ _ _ _ _ _ _ _ _ _ _ _ _ _ _ _ w (kq x.name y.name) (λW hb=>Fb x.cands y.cands uo zo un uc zn zc W (StrL.below h hb) (StrL.below k hb)) rfl rfl rfl rfl rfl rfl rfl
theorem Nd(x y:Sty)(uo zo po qo:Option Addr)(un uc zn zc pn pc qn qc:Nat)(w:World)(h:IntL .i64 qU w uo un uc x.precs)(k:IntL .i64 qU w zo zn zc y.precs)(h2:IntL .i64 qU w po pn pc x.conts)(k2:IntL .i64 qU w qo qn qc y.conts) :
    Calls Tryz.prog 53 #[.agg #[.string (stg x.name),.slice uo un uc,.slice po pn pc],.agg #[.string (stg y.name),.slice zo zn zc,.slice qo qn qc]] w λe w'=>e=.returned (.bool (decide (x.name=y.name)&&decide (x.precs=y.precs)&&decide (x.conts=y.conts)))/\Below w.heap.size w w' :=
 CK _ _ _ _ _ _ _ _ _ _ _ _ _ _ _ _ _ w (kq x.name y.name) (λW hb=>Fe x.precs y.precs uo zo un uc zn zc W (Row.keep h qJ (qD _ hb)) (Row.keep k qJ (qD _ hb))) (λW hb=>Fe x.conts y.conts po qo pn pc qn qc W (Row.keep h2 qJ (qD _ hb)) (Row.keep k2 qJ (qD _ hb)))
