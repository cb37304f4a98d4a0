/- -/
import Derived.Test.YtkefajjcpcoajaaGreatDoorPkA0
import Derived.Laws.AppendOwnNone
import Derived.Test.YtkefajjcpcoajaaGreatDoorPkA21
import Derived.Test.YtkefajjcpcoajaaGreatDoorPkA22
set_option linter.all false
set_option maxRecDepth 100000
set_option maxHeartbeats 25600000
namespace Go.Proofs.YtkefajjcpcoajaaGreatDoor
open Go.RowKit Lx
variable {B j:Nat}{P used vs:List (List UInt8)}{ln:Int}
section
variable {w : World} {ops : Array Oper} {rest : List Oper} {a : Act} {Q : Exit -> Act -> World -> Prop} {d : Option Tmp} {p q : Operand} {ty : TypeId} {pos : String} {after : Array Edge}
theorem Jk{E:TypeId}{s n:Nat}{v:Value}{us:List Value}(h:w.ownsRow B E s v n us):∃ao c,v=.slice ao n c:=by
 rcases h.2 with ⟨hv,h0⟩|⟨g,cap,_,hv,_⟩
 . exact⟨none,0,by rw[hv,h0]⟩
 . exact⟨_,cap,hv⟩
theorem ye{S:World->Nat->Prop}{ao:Option Addr}{n c:Nat}{us:List Value}{bo:Option Addr}{m e:Nat}{ys:List (List UInt8)}(hO:w.ownsRow B 9 1 (.slice ao n c) n us)(hL:StrL S w bo m e ys)(hB:B<=w.heap.size)(hn:n+m<=8000000)
    (hp:a.eval p=.slice ao n c) (hq:a.eval q=.slice bo m e)
    (h:∀ao' c' w',w'.ownsRow B 9 1 (.slice ao' (n+m) c') (n+m) (us++ys.map λv=>.string (stg v))->Below B w w'->wpList Tryz.prog ops Q rest (a.put d (.slice ao' (n+m) c')) w') :
    wpList Tryz.prog ops Q (⟨d,.call { callee:=.builtin .append,args:=#[p,q],argTypes:=#[26,26] },ty,pos,after,none⟩ :: rest) a w:=by
 obtain⟨i0,hi,a1,J,a0⟩:=info_parts QW;have y:=StrL.len hL;cases bo with
 | none =>
  have V:m=0:=by
   rcases Nat.eq_zero_or_pos m with h1|h1
   . exact h1
   . obtain⟨a,ha⟩:=Row.isSome hL h1;cases ha
  have Z:=Row.nil0 hL rfl;subst V;subst Z;have H:ys=[]:=List.eq_nil_of_length_eq_zero y;subst H;refine wpList_append_own_none rfl p q 26 rfl B 9 i0 1 Tryz.underlying26 hi _ n _ hp hO hq ?_;exact h ao c w (by simpa using hO) (Below.refl _ _)
 | some ad =>
  refine wpList_append_own w rfl p q 26 rfl B 9 i0 (.string ⟨#[]⟩) 1 16 Tryz.underlying26 hi a1 J a0 rfl (by decide) _ n _ hp hO ad m e (ys.map λv=>.string (stg v)) hq (by simp[y]) ?_ ?_ (by unfold maxLen;omega) (by omega) hB ?_
  . intro j u hj;exact(Row.cell hL j u hj).1
  . intro u hu;obtain⟨_,_,rfl⟩:=List.mem_map.1 hu;rfl
  . intro v' w' G hg _;obtain⟨av,cv,hv⟩:=Jk G;subst hv;exact h av cv w' G ((Below.refl _ _).grown hg hB (λk hk=>(World.ownsRow.lt hO k hk).1))
end
namespace Lx
theorem UJ{bs:List qK}{b:qK}(h:bs[j]? = some b):(bs.take (j+1)).flatMap (λb=>qN b zy)=(bs.take j).flatMap (λb=>qN b zy)++(qt b zy).vals:=by
 rw[qg h,List.flatMap_append,List.flatMap_cons,List.flatMap_nil,List.append_nil,kJ]
theorem FU(bs:List qK)(j:Nat):((bs.take j).flatMap λb=>qN b zy).length<=(bs.flatMap λb=>qN b zy).length:=by
 conv=>rhs;rw[<- List.take_append_drop j bs,List.flatMap_append,List.length_append]
 omega
end Lx
theorem yA(bs:List qK)(ao:Option Addr)(n c:Nat)(w:World)(h:BlkS qU w ao n c bs)(hn:n<=2000000)(hp:(zF bs).length<=4000000) :
    Calls Tryz.prog 63 #[.slice ao n c] w λe w'=>∃ro m d,e=.returned (.slice ro m d)/\(∃B,w.heap.size<=B/\StrL (qS B [9]) w' ro m d (zF bs))/\Below w.heap.size w w':=by
 have HK:Hid (jC 61 #[.slice ao n c,.string ⟨#[112,114,101,99,105,110,99,116,115]⟩] w λe w'=>∃ro m d,e=.returned (.slice ro m d)/\BlkS qU w' ro m d (qH qB bs)/\Below w.heap.size w w'):=ux bs qB ao n c w h hn;have b1:Hid ((zF bs).length<=4000000):=hp;clear h hp;go_in;go_wp2_with fail;refine HK.o.mono ?_;rintro e y ⟨so,m,d,rfl,Z,B1⟩;obtain⟨G,a5⟩:∃P,Hid (qH qB bs=P):=⟨_,rfl⟩;have a2:Hid (zF bs=G.flatMap λb=>qN b zy):=by show _=_;rw[<- a5.o];rfl
 rw[a5.o] at Z;have a0:=jA Z.len;obtain⟨b4,a9⟩:=Z.caps;replace Z:=jA Z;replace B1:=jA B1;clear HK;go_wp2_with fail;go_loopw [3,5,9] (λv _ i wr=>∃ (j:Nat) (ro:Option Addr) (k e:Nat),j<=m/\i=.int .i64 (j:Int)/\v=.slice ro k e/\wr.ownsRow y.heap.size 9 1 (.slice ro k e) k (((G.take j).flatMap λb=>qN b zy).map λv=>.string (stg v))/\Below y.heap.size y wr) (λ_ _ i _=>m-(intOf i).toNat)
 case atStart=>exact⟨0,none,0,0,Nat.zero_le _,rfl,rfl,World.ownsRow_nil _ _ _ _,Below.refl _ _⟩
 case round =>
  obtain⟨w2,b3⟩:∃x,x=wr:=⟨_,rfl⟩;subst b3;obtain⟨j,ro,k,e,hj,rfl,rfl,O,B⟩:=hrel;by_cases a7:j<m
  . (have a3:(j:Int)<(m:Int):=by omega);obtain⟨b,a,fo,fn,fc,hb,i1,c0,c1,c2,c3,FL⟩:=(Z.o.below B).get j a7;obtain⟨V,W1,e1,e2,AW,BW,zW,f0,f1,f2,f3,f4,f5,f6,f7⟩:=xl w2 55 (.string ⟨#[]⟩) (.string ⟨#[]⟩) (.slice none 0 0) (.int .i64 0) (.string (stg b.kind)) (.string (stg b.name)) (.slice fo fn fc) (.int .i64 b.line);obtain⟨y0,y1,y2,y3⟩:=AW.c4;have H:=vR b zy fo fn fc W1 (FL.below BW);obtain⟨K,hK⟩:=jx1 (stg b.kind);obtain⟨N,hN⟩:∃K,Hid (stg b.name=K):=⟨_,rfl⟩;obtain⟨LN,b2⟩:∃K,Hid (b.line=K):=⟨_,rfl⟩;rw[hK.o] at c0 e2 f2 f3 f4 f5 f6 f7 y0 H;rw[hN.o] at c1 e2 y1 f4 f5 f6 f7 H;rw[b2.o] at c3 e2 y3 H;have B2:Hid (Below y.heap.size y W1):=B.trans (BW.mono B.size);have O2:Hid (W1.ownsRow y.heap.size 9 1 (.slice ro k e) k (((G.take j).flatMap λb=>qN b zy).map λv=>.string (stg v))):=qQ O BW;have HS:=jA (UJ hb);have b0:Hid (((G.take j).flatMap λb=>qN b zy).length=k):=by
     have h1:=O.1;rw[List.length_map,Nat.mul_one] at h1;exact h1
    have a4:Hid (((G.take (j+1)).flatMap λb=>qN b zy).length<=4000000):=by
     show _<=_;have h1:=FU G (j+1);have h2:=b1.o;rw[a2.o] at h2;omega
    replace H:Hid (jC 115 #[.agg #[.string K,.string N,.slice fo fn fc,.int .i64 LN],.string ⟨#[110,97,109,101,115]⟩] W1 λe w'=>∃vo J vc,e=.returned (.agg #[.string (stg (qt b zy).key),.slice vo J vc,.int .i64 (qt b zy).line])/\StrL qU w' vo J vc (qt b zy).vals/\Below W1.heap.size W1 w'):=H;clear O B BW FL AW zW hb;go_wp2_with fail;clear e1 e2 f0 f1 f2 f3 f4 f5 f6 f7 y0 y1 y2 y3 c0 c1 c2 c3 i1;refine H.o.mono ?_;rintro e w3 ⟨vo,J,vc,rfl,SL,B3⟩;have b5:=gZ (.string (stg (qt b zy).key)) (.int .i64 (qt b zy).line) vo J vc;have B4:Hid (Below y.heap.size y w3):=B2.o.trans (B3.mono B2.o.size);have O4:=jA (qQ O2.o B3);have a8:Hid ((qt b zy).vals.length=J):=StrL.len SL;have a1:k+J<=8000000:=by
     have h1:=a4.o;rw[HS.o,List.length_append,b0.o,a8.o] at h1;omega
    have hz:y.heap.size<=w3.heap.size:=B4.o.size;have SL:=jA SL;clear H B3;go_wp2_with (at_builtin;refine ye O4.o SL.o hz a1 rfl rfl ?_);intro a6 d3 w4 O5 B5;have B6:Hid (Below y.heap.size y w4):=B4.o.trans B5;rw[<- List.map_append,<- HS.o] at O5;have O6:=jA O5;clear O5 B5 hz;go_wp2_with fail;go_roundw;(case rel=>exact⟨j+1,a6,k+J,d3,by omega,by go_num,rfl,O6.o,B6.o⟩);case measure=>simp[intOf];omega
  . (have a3:¬ (j:Int)<(m:Int):=by omega);have hR:Hid (G.take j=G):=List.take_of_length_le (by have:=a0.o;omega);rw[hR.o,<- a2.o] at O;have BF:Hid (Below w.heap.size w w2):=B1.o.trans (B.mono B1.o.size);replace O:=jA O;clear B;go_wp2_with fail;go_ret;exact⟨ro,k,e,rfl,⟨_,B1.o.size,Row.own O.o (by decide)⟩,BF.o⟩
theorem ZO(bs:List qK)(ao:Option Addr)(n c:Nat)(w:World)(h:BlkS qU w ao n c bs)(hn:n<=2000000)(hp:(zF bs).length<=4000000) :
    Calls Tryz.prog 63 #[.slice ao n c] w λe w'=>∃ro m d,e=.returned (.slice ro m d)/\StrL qU w' ro m d (zF bs)/\Below w.heap.size w w' :=
 (yA bs ao n c w h hn hp).mono λ_ _ ⟨ro,m,d,h1,⟨_,_,h2⟩,h3⟩=>⟨ro,m,d,h1,Row.mono h2 kE,h3⟩
namespace Lx
theorem Gd{v:List UInt8}(h:vs[j]? = some v) :
    jB P ln (used++vs.take j) (vs.drop j)=if !P.contains v then ((2,ln),used++vs.take j) else if (used++vs.take j).contains v then ((3,ln),used++vs.take j) else jB P ln (used++vs.take (j+1)) (vs.drop (j+1)):=by
 rw[uz h,jB,qg h,List.append_assoc]
theorem FV(h:vs.length<=j):jB P ln (used++vs.take j) (vs.drop j)=((0,0),used++vs):=by
 rw[List.drop_eq_nil_of_le h,List.take_of_length_le h];rfl
theorem FW{v:List UInt8}(h:vs[j]? = some v)(hv:P.contains v=false):vu P ln vs=(2,ln):=by
 unfold vu;rw[if_neg];intro e;have:=List.all_eq_true.1 e v (List.mem_of_getElem? h);rw[hv] at this;cases this
theorem NP(h:∀ (t:Nat) v,vs[t]? = some v->P.contains v=true):vu P ln vs=(0,0):=by
 unfold vu;rw[if_pos];rw[List.all_eq_true];intro x m;obtain⟨i,hi,rfl⟩:=List.mem_iff_getElem.1 m;exact h i _ (List.getElem?_eq_getElem hi)
theorem Vq{C:List (List UInt8)}{b:qK}{r:List qK}:qz P C used (b :: r) =
    if (jB P (qt b qB).line used (qt b qB).vals).1.1≠0 then (jB P (qt b qB).line used (qt b qB).vals).1
    else if (vu C (qt b qO).line (qt b qO).vals).1≠0 then vu C (qt b qO).line (qt b qO).vals
    else qz P C (jB P (qt b qB).line used (qt b qB).vals).2 r:=by
 rw[qz,kJ,gY,kJ,gY]
end Lx
theorem gH{a b c:World}(h7:Below B a b)(h8:Below B a c):Keeps (ya B) b c:=λk _ hk=>(h8.block k hk).trans (h7.block k hk).symm
theorem Jl(bs:List qK)(ao:Option Addr)(n c:Nat)(w:World)(h:BlkS qU w ao n c bs)(hn:n<=2000000)(hp:(zF bs).length<=4000000)(hq:((qH qI bs).flatMap λb=>(qt b qB).vals).length<=4000000) :
    Calls Tryz.prog 62 #[.slice ao n c] w λe w'=>e=.returned (.agg #[.int .i64 (((qz (zF bs) (jD bs) [] (qH qI bs)).1:Nat):Int),.int .i64 (qz (zF bs) (jD bs) [] (qH qI bs)).2])/\Below w.heap.size w w':=by
 obtain⟨V,e1,AV,BV,hz⟩:=qG w 37 [.int .i64 0,.int .i64 0];have HP:=ZO bs ao n c V (h.below BV) hn hp;have HC:=λw1 (hb:Below V.heap.size V w1)=>Zr bs ao n c w1 ((h.below BV).below hb) hn
 have HK:∀w1 (_:Below V.heap.size V w1),jC 61 #[.slice ao n c,.string ⟨#[115,116,121,108,101]⟩] w1 λe w'=>∃ro m d,e=.returned (.slice ro m d)/\BlkS qU w' ro m d (qH qI bs)/\Below w1.heap.size w1 w':=λw1 hb=>ux bs qI ao n c w1 ((h.below BV).below hb) hn
 obtain⟨PN,i4⟩:∃P,Hid (zF bs=P):=⟨_,rfl⟩;obtain⟨CN,h4⟩:∃P,Hid (jD bs=P):=⟨_,rfl⟩;obtain⟨SB,f8⟩:∃P,Hid (qH qI bs=P):=⟨_,rfl⟩;rw[i4.o] at HP;rw[h4.o] at HC;rw[f8.o] at HK;rw[i4.o,h4.o,f8.o];obtain⟨TE,g0⟩:∃T,qz PN CN [] SB=T:=⟨_,rfl⟩;rw[g0];have l8:Hid (TE=qz PN CN [] (SB.drop 0)):=g0.symm;have m8:Hid ((SB.flatMap λb=>(qt b qB).vals).length<=4000000):=by show _<=_;rw[<- f8.o];exact hq
 obtain⟨bb,b4⟩:∃b,w.heap.size=b:=⟨_,rfl⟩;rw[b4] at AV;have A1:=jA AV;have HB:Hid (Below w.heap.size w V):=BV;have c6:Hid (w.heap.size<=bb):=by show _<=_;omega
 replace HP:=jA HP;replace HC:=jA HC;replace HK:=jA HK;clear h hp hq AV BV hz g0;go_in;go_wp2_with fail;refine HP.o.mono ?_;rintro e w1 ⟨po,pn,pc,rfl,PL,B1⟩;have HJ:=jA (HC.o w1 B1);replace PL:=jA PL;replace B1:=jA B1;clear HP HC;go_wp2_with fail;refine HJ.o.mono ?_;rintro e w2 ⟨co,cn,cc,rfl,CL,B2⟩;replace PL:=jA (StrL.below PL.o B2);replace B2:Hid (Below V.heap.size V w2):=B1.o.trans (B2.mono B1.o.size);have HJ:=jA (HK.o w2 B2.o);replace CL:=jA CL;clear HK B1;go_wp2_with fail;refine HJ.o.mono ?_;rintro e H ⟨so,sn,sc,rfl,SL,B3⟩;replace PL:=jA (StrL.below PL.o B3);replace CL:=jA (StrL.below CL.o B3);replace B3:Hid (Below V.heap.size V H):=B2.o.trans (B3.mono B2.o.size);have h9:=jA SL.len;have l6:=jA (StrL.len PL.o);obtain⟨n4,n3⟩:=SL.caps;have n0:=Row.cap PL.o;have k3:=Row.room PL.o;have l5:=jA SL.low;have l7:=jA (Row.low PL.o);have k7:=jA (Row.low CL.o);clear HJ B2 SL PL CL;go_wp2_with fail;clear e1;have n5:Hid (bb<H.heap.size):=Nat.lt_of_lt_of_le A1.o.lt B3.o.size;have a1:Hid (Below w.heap.size w H):=HB.o.trans (B3.o.mono HB.o.size);have A3:=jA (A1.o.kept B3.o);go_loopw [5,7,8,10,12,20] (λu _ _ _ _ i wr=>∃ (j:Nat) (uo:Option Addr) (uc:Nat) (U:List (List UInt8)),j<=sn/\i=.int .i64 (j:Int)/\u=.slice uo U.length uc/\wr.ownsRow H.heap.size 9 1 (.slice uo U.length uc) U.length (U.map λv=>.string (stg v))/\Below H.heap.size H wr/\Hid (TE=qz PN CN U (SB.drop j))/\Hid (U=(SB.take j).flatMap λb=>(qt b qB).vals)) (λ_ _ _ _ _ i _=>sn-(intOf i).toNat)
 case atStart=>exact⟨0,none,0,[],Nat.zero_le _,rfl,rfl,World.ownsRow_nil _ _ _ _,Below.refl _ _,l8.o,rfl⟩
 case round =>
  obtain⟨w4,l3⟩:∃x,x=wr:=⟨_,rfl⟩;subst l3;obtain⟨j,uo,uc,U,hj,rfl,rfl,O,B,HX,HU⟩:=hrel;by_cases m2:j<sn
  . (have j5:(j:Int)<(sn:Int):=by omega);obtain⟨b,a,fo,fn,fc,hb,i1,c0,c1,c2,c3,FL⟩:=(l5.o.keep (qp _) (zN B)).get j m2;have hs:=HX.o;rw[uz hb,Vq] at hs;have e6:Hid (U++(qt b qB).vals=(SB.take (j+1)).flatMap λb=>(qt b qB).vals):=by
     show _=_;rw[qg hb,List.flatMap_append,<- HU.o,List.flatMap_cons,List.flatMap_nil,List.append_nil]
    have h3:Hid ((U++(qt b qB).vals).length<=4000000):=by
     show _<=_;rw[e6.o];have h1:=m8.o;have h2:((SB.take (j+1)).flatMap λb=>(qt b qB).vals).length<=(SB.flatMap λb=>(qt b qB).vals).length:=by
      conv=>rhs;rw[<- List.take_append_drop (j+1) SB,List.flatMap_append,List.length_append]
      omega
     omega
    obtain⟨V1,W5,e1,e2,AW,BW,zW,f0,f1,f2,f3,f4,f5,f6,f7⟩:=xl w4 55 (.string ⟨#[]⟩) (.string ⟨#[]⟩) (.slice none 0 0) (.int .i64 0) (.string (stg b.kind)) (.string (stg b.name)) (.slice fo fn fc) (.int .i64 b.line);obtain⟨g7,g9⟩:∃g,w4.heap.size=g:=⟨_,rfl⟩;rw[g9] at AW e2 f0 f1 f2 f3 f4 f5 f6 f7;have d0:H.heap.size<=w4.heap.size:=B.size;have i0:H.heap.size<=W5.heap.size:=Nat.le_trans d0 BW.size;have b8:=FL.keep (qp _) (zN (BW.mono d0));have a8:=gG H.heap.size b qB fo fn fc W5 b8 i0;obtain⟨G,i6⟩:∃F,qt b qB=F:=⟨_,rfl⟩;obtain⟨F2,g4⟩:∃F,qt b qO=F:=⟨_,rfl⟩;rw[i6] at hs a8 e6 h3;rw[g4] at hs;obtain⟨KD,j4⟩:∃K,Hid (stg b.kind=K):=⟨_,rfl⟩;obtain⟨KN,i8⟩:∃K,Hid (stg b.name=K):=⟨_,rfl⟩;obtain⟨LN,h6⟩:∃K,Hid (b.line=K):=⟨_,rfl⟩;rw[j4.o] at c0 e2 AW f2 f3 f4 f5 f6 f7 a8;rw[i8.o] at c1 e2 AW f4 f5 f6 f7 a8;rw[h6.o] at c3 e2 AW a8;replace a8:Hid (jC 115 #[.agg #[.string KD,.string KN,.slice fo fn fc,.int .i64 LN],.string ⟨#[112,114,101,99,105,110,99,116,115]⟩] W5 λe w'=>∃vo vn vc,e=.returned (.agg #[.string (stg G.key),.slice vo vn vc,.int .i64 G.line])/\StrL (ya H.heap.size) w' vo vn vc G.vals/\Below W5.heap.size W5 w'):=a8;obtain⟨y0,y1,y2,y3⟩:=AW.c4;have B5:Hid (Below H.heap.size H W5):=B.trans (BW.mono d0);have O5:=jA (qQ O BW);have AG:=jA AW;have b8:=jA b8;have h5:=jA g4;have hs:=jA hs;clear O B BW FL AW zW hb d0 i0 i6 g4;go_wp2_with fail;clear e1 e2 f0 f1 f2 f3 f4 f5 f6 f7 y0 y1 y2 y3 c0 c1 c2 c3 i1 g9;refine a8.o.mono ?_;rintro e w6 ⟨vo,vn,vc,rfl,SV,B6⟩;obtain⟨FK,m4⟩:∃K,Hid (stg G.key=K):=⟨_,rfl⟩;obtain⟨a5,b9⟩:∃K,Hid (G.line=K):=⟨_,rfl⟩;rw[m4.o,b9.o];obtain⟨V2,W7,e1,e2,AW,BW,zW,f0,f1,f2,f3,f4,f5⟩:=ze w6 63 (.string ⟨#[]⟩) (.slice none 0 0) (.int .i64 0) (.string FK) (.slice vo vn vc) (.int .i64 a5);obtain⟨g8,g2⟩:∃g,w6.heap.size=g:=⟨_,rfl⟩;rw[g2] at AW e2 f0 f1 f2 f3 f4 f5;(have b0:Hid (H.heap.size<=g8):=by show _<=_;rw[<- g2];exact Nat.le_trans B5.o.size B6.size);have b6:Below W5.heap.size W5 W7:=B6.trans (BW.mono B6.size);have z5:=B5.o.size;have B7:Hid (Below H.heap.size H W7):=B5.o.trans (b6.mono z5);have O7:=jA (qQ O5.o b6);have j3:=jA (AG.o.kept b6);have m9:=jA (b8.o.keep (qp _) (zN (b6.mono z5)));have m3:=jA (Row.keep SV (qp _) (zN (BW.mono (Nat.le_trans z5 B6.size))));have h8:=jA AW;have y1:W7.cell? ⟨g8,1,none⟩=some (.slice vo vn vc):=AW.cell 1;have l4:Hid (G.vals.length=vn):=StrL.len SV;have k6:=Row.cap SV;have k1:=Row.room SV;obtain⟨X,hX⟩:=jx3 (jB PN G.line U G.vals);(have i9:Hid (X=jB PN G.line (U++G.vals.take 0) (G.vals.drop 0)):=by show _=_;rw[List.take_zero,List.append_nil];exact hX.symm);have b2:=hs.o;rw[hX] at b2;replace b2:=jA b2;clear a8 B5 O5 AG b8 SV B6 AW BW zW b6 z5 hs hX;go_wp2_with fail;clear e1 e2 f0 f1 f2 f3 f4 f5 y1 g2;(go_loopw [5,10,29] (λu _ ii wr=>∃ (i:Nat) (uo:Option Addr) (uc k:Nat),i<=vn/\ii=.int .i64 (i:Int)/\u=.slice uo k uc/\wr.ownsRow H.heap.size 9 1 (.slice uo k uc) k ((U++G.vals.take i).map λv=>.string (stg v))/\Arr wr g7 55 [.string KD,.string KN,.slice fo fn fc,.int .i64 LN]/\Arr wr g8 63 [.string FK,.slice vo vn vc,.int .i64 a5]/\Below H.heap.size H wr/\Hid (X=jB PN G.line (U++G.vals.take i) (G.vals.drop i))) (λ_ _ ii _=>vn-(intOf ii).toNat));(case atStart=>exact⟨0,_,_,_,Nat.zero_le _,rfl,rfl,by rw[List.take_zero,List.append_nil];exact O7.o,j3.o,h8.o,B7.o,i9.o⟩);case round =>
     obtain⟨w8,m5⟩:∃x,x=wr:=⟨_,rfl⟩;subst m5;clear O7 j3 h8 i9;obtain⟨i,e7,d8,k,hi,rfl,rfl,O,AG,AH,B,d5⟩:=hrel;have g3:Hid ((U++G.vals.take i).length=k):=by
      have h1:=O.1;rw[List.length_map,Nat.mul_one] at h1;exact h1
     have g5:k<=4000000:=by
      have h1:=h3.o;have h2:=g3.o;rw[List.length_append] at h1 h2;rw[List.length_take] at h2;omega
     (have e3:=λv=>vw PN v po pn pc w8 (Row.keep l7.o (qp _) (zN B)));(have e5:=λv=>vw (U++G.vals.take i) v e7 k d8 w8 (Row.own O (by decide)));have g1:=Row.keep m3.o (qp _) (gH B7.o B);have y2:w8.cell? ⟨g8,2,none⟩=some (.int .i64 a5):=AH.cell 2;by_cases i7:i<vn
     . (have e0:(i:Int)<(vn:Int):=by omega);obtain⟨v,a2,hv,i2,d1⟩:=StrL.get g1 i i7;have y:=d5.o;rw[Gd hv] at y;have a0:=e3 v;have a4:=e5 v;have j2:Hid ((U++G.vals.take (i+1)).map (λv=>Value.string (stg v))=(U++G.vals.take i).map (λv=>Value.string (stg v))++[.string (stg v)]):=by
        show _=_;rw[qg hv,<- List.append_assoc,List.map_append,List.map_singleton]
       obtain⟨K,hK⟩:=jx1 (stg v);rw[hK.o] at d1 a0 a4 j2;obtain⟨zp,d7⟩:∃z,PN.contains v=z:=⟨_,rfl⟩;obtain⟨zu,e8⟩:∃z,(U++G.vals.take i).contains v=z:=⟨_,rfl⟩;rw[d7,e8] at y;rw[d7] at a0;rw[e8] at a4;replace a0:=jA a0;replace a4:=jA a4;clear d7 e8 e3 e5 g1 hv d5;have hz:H.heap.size<=w8.heap.size:=B.size;cases zp with
       | false =>
        replace y:X=((2,G.line),U++G.vals.take i):=y;have hT:Hid (TE=(2,a5)):=by
         show _=_;rw[b2.o,y,if_pos (show ¬ ((2:Nat)=0) by decide),<- b9.o]
        clear y;have J:Below w.heap.size w w8:=a1.o.trans (B.mono a1.o.size);obtain⟨Y,e9,r0,r1,Z,q0,q1,q2,q3⟩:=ji (A3.o.kept B) w J c6.o (.int .i64 2) (.int .i64 a5);replace Z:=jA Z;clear J O AG AH B hz;go_wp2_with fail;refine a0.o.mono ?_;rintro e w9 ⟨rfl,rfl⟩;clear a0 a4;go_wp2_with fail;refine bodyPost_ret (v:=.agg #[.int .i64 2,.int .i64 a5]) (by simp[results,Tryz.results62,go_sem,r0,r1]) rfl ?_;exact⟨by rw[hT.o];rfl,by first|exact Z.o|(rw[<- b4];exact Z.o)⟩
       | true =>
        cases zu with
        | true =>
         replace y:X=((3,G.line),U++G.vals.take i):=y;have hT:Hid (TE=(3,a5)):=by
          show _=_;rw[b2.o,y,if_pos (show ¬ ((3:Nat)=0) by decide),<- b9.o]
         clear y;have J:Below w.heap.size w w8:=a1.o.trans (B.mono a1.o.size);obtain⟨Y,e9,r0,r1,Z,q0,q1,q2,q3⟩:=ji (A3.o.kept B) w J c6.o (.int .i64 3) (.int .i64 a5);replace Z:=jA Z;clear J O AG AH B hz;go_wp2_with fail;refine a0.o.mono ?_;rintro e w9 ⟨rfl,rfl⟩;clear a0;go_wp2_with fail;refine a4.o.mono ?_;rintro e w9 ⟨rfl,rfl⟩;clear a4;go_wp2_with fail;refine bodyPost_ret (v:=.agg #[.int .i64 3,.int .i64 a5]) (by simp[results,Tryz.results62,go_sem,r0,r1]) rfl ?_;exact⟨by rw[hT.o];rfl,by first|exact Z.o|(rw[<- b4];exact Z.o)⟩
        | false =>
         replace y:Hid (X=jB PN G.line (U++G.vals.take (i+1)) (G.vals.drop (i+1))):=y;have h7:=jA AG;have b3:=jA AH;clear AG AH;go_wp2_with fail;refine a0.o.mono ?_;rintro e w9 ⟨rfl,rfl⟩;clear a0;go_wp2_with fail;refine a4.o.mono ?_;rintro e w9 ⟨rfl,rfl⟩;clear a4;go_wp2_with (at_builtin;refine xM (vs:=[.string K]) Tryz.underlying26 QW rfl (by decide) (by decide) O hz g5 rfl (by intro u hu;simp at hu;subst hu;rfl) rfl rfl ?_);intro l0 d9 w9 O3 G3 B9;have m6:=jA (h7.o.row O (by decide) G3);have m1:=jA (b3.o.row O (by decide) G3);have B4:Hid (Below H.heap.size H w9):=B.trans B9;rw[<- j2.o] at O3;have O4:=jA O3;clear O3 G3 B9 h7 b3 O hz y2 d1 i2;go_wp2_with fail;go_roundw;(case rel=>exact⟨i+1,l0,d9,k+1,by omega,by go_num,rfl,O4.o,m6.o,m1.o,B4.o,y.o⟩);case measure=>simp[intOf];omega
     . (have e0:¬ (i:Int)<(vn:Int):=by omega);(have d2:G.vals.length<=i:=by rw[l4.o];omega);have y:=d5.o;rw[FV d2] at y;rw[List.take_of_length_le d2] at O;rw[List.take_of_length_le d2] at g3;have c8:=b2.o;rw[y,if_neg (show ¬ ((0:Nat)≠0) by decide)] at c8;clear b2 y d5 e3 e5 g1 y2;obtain⟨y0,y1,y2,y3⟩:=AG.c4;have j1:=m9.o.keep (qp _) (gH B7.o B);have c7:=gG H.heap.size b qO fo fn fc w8 j1 B.size;rw[h5.o,j4.o,i8.o,h6.o] at c7;replace c7:Hid (jC 115 #[.agg #[.string KD,.string KN,.slice fo fn fc,.int .i64 LN],.string ⟨#[99,111,110,116,101,115,116,115]⟩] w8 λe w'=>∃vo vn vc,e=.returned (.agg #[.string (stg F2.key),.slice vo vn vc,.int .i64 F2.line])/\StrL (ya H.heap.size) w' vo vn vc F2.vals/\Below w8.heap.size w8 w'):=c7;have c8:=jA c8;have d4:=jA B;have O8:=jA O;have b3:=jA AH;clear B O AG AH j1 g5 d2;go_wp2_with fail;refine c7.o.mono ?_;rintro e w9 ⟨xo,xn,xc,rfl,SX,B9⟩;clear c7;obtain⟨k9,h0⟩:∃K,Hid (stg F2.key=K):=⟨_,rfl⟩;obtain⟨b7,d6⟩:∃K,Hid (F2.line=K):=⟨_,rfl⟩;rw[h0.o,d6.o];obtain⟨a6,e2,hW,AJ,f0,f1,f2,f3,f4,f5⟩:=jY (b3.o.kept B9) (.string k9) (.slice xo xn xc) (.int .i64 b7);have a9:Below H.heap.size H a6:=by
        have h1:Below H.heap.size H w9:=d4.o.trans (B9.mono d4.o.size);rw[hW.o];exact((h1.setCell (p:=⟨_,0,none⟩) b0.o _).setCell (p:=⟨_,1,none⟩) b0.o _).setCell (p:=⟨_,2,none⟩) b0.o _
       have k5:Hid (a6.ownsRow H.heap.size 9 1 (.slice e7 k d8) k ((U++G.vals).map λv=>.string (stg v))):=by
        have h1:=qQ O8.o B9;have h2:=b3.o.kept B9;have e4:=zI h1 h2 (by decide);rw[hW.o];exact xy (xy (xy h1 (p:=⟨g8,0,none⟩) e4 _) (p:=⟨g8,1,none⟩) e4 _) (p:=⟨g8,2,none⟩) e4 _
       have j0:Hid (StrL (ya H.heap.size) a6 xo xn xc F2.vals):=Row.keep SX (qp _) (gH (d4.o.trans (B9.mono d4.o.size)) a9);have m7:=jA (StrL.len SX);have k4:=Row.cap SX;have k0:=Row.room SX;have y1:a6.cell? ⟨g8,1,none⟩=some (.slice xo xn xc):=AJ.cell 1;have n6:a6.cell? ⟨g8,2,none⟩=some (.int .i64 b7):=AJ.cell 2;replace a9:=jA a9;clear SX B9 hW AJ b3 O8;go_wp2_with fail;clear e2 f0 f1 f2 f3 f4 f5 y0 y1 y2 y3;(go_loopw [12,56] (λ_ ii wr=>∃ (t:Nat),t<=xn/\ii=.int .i64 (t:Int)/\a6=wr/\Hid (∀s v,s<t->F2.vals[s]? = some v->CN.contains v=true)) (λ_ ii _=>xn-(intOf ii).toNat));(case atStart=>exact⟨0,Nat.zero_le _,rfl,rfl,λs v hs=>absurd hs (Nat.not_lt_zero _)⟩);case round =>
        obtain⟨t,ht,rfl,hw,HA⟩:=hrel;subst hw;by_cases g6:t<xn
        . (have f9:(t:Int)<(xn:Int):=by omega);obtain⟨v,a3,hv,i3,d3⟩:=StrL.get j0.o t g6;have a7:=vw CN v co cn cc a6 (Row.keep k7.o (qp _) (zN a9.o));obtain⟨K,hK⟩:=jx1 (stg v);rw[hK.o] at d3 a7;obtain⟨z,hz⟩:=jx3 (CN.contains v);rw[hz] at a7;replace a7:=jA a7;cases z with
          | false =>
           have hT:Hid (TE=(2,b7)):=by
            show _=_;rw[c8.o,FW hv hz,if_pos (show(2:Nat)≠0 by decide),<- d6.o]
           have J:Below w.heap.size w a6:=a1.o.trans (a9.o.mono a1.o.size);obtain⟨Y,e9,r0,r1,Z,q0,q1,q2,q3⟩:=ji (A3.o.kept a9.o) w J c6.o (.int .i64 2) (.int .i64 b7);replace Z:=jA Z;clear J hv hz;go_wp2_with fail;refine a7.o.mono ?_;rintro e m0 ⟨rfl,rfl⟩;clear a7;go_wp2_with fail;refine bodyPost_ret (v:=.agg #[.int .i64 2,.int .i64 b7]) (by simp[results,Tryz.results62,go_sem,r0,r1]) rfl ?_;exact⟨by rw[hT.o];rfl,by first|exact Z.o|(rw[<- b4];exact Z.o)⟩
          | true =>
           have l9:Hid (∀s v,s<t+1->F2.vals[s]? = some v->CN.contains v=true):=by
            intro s v' n8 b5;by_cases e:s=t
            . subst e;rw[hv] at b5;injection b5 with b5;subst b5;exact hz
            . exact HA.o s v' (by omega) b5
           clear hv hz HA;go_wp2_with fail;refine a7.o.mono ?_;rintro e m0 ⟨rfl,rfl⟩;clear a7;go_wp2_with fail;go_roundw;(case rel=>exact⟨t+1,by omega,by go_num,by first|rfl|trivial,l9.o⟩);case measure=>simp[intOf];omega
        . (have f9:¬ (t:Int)<(xn:Int):=by omega);have hT:Hid (TE=qz PN CN (U++G.vals) (SB.drop (j+1))):=by
           show _=_;have hk:vu CN F2.line F2.vals=(0,0):=NP λs v hv=>HA.o s v (by
            have h1:=m7.o;have h2:=(List.getElem?_eq_some_iff.1 hv).1;omega) hv
           rw[c8.o,hk,if_neg (show ¬ ((0:Nat)≠0) by decide)]
          obtain⟨k2,n7⟩:∃q,k=q:=⟨_,rfl⟩;have i5:Hid (k=(U++G.vals).length):=g3.o.symm;clear HA;go_wp2_with fail;go_roundw;(case rel=>exact⟨j+1,e7,d8,U++G.vals,by omega,by go_num,by rw[i5.o],by rw[<- i5.o];exact k5.o,a9.o,hT.o,e6.o⟩);case measure=>simp[intOf];omega
  . (have j5:¬ (j:Int)<(sn:Int):=by omega);have hs:=HX.o;rw[List.drop_eq_nil_of_le (by rw[h9.o];omega),qz,l6.o] at hs;by_cases hm:U.length<pn
    . have b1:decide ((U.length:Int)<(pn:Int))=true:=decide_eq_true (by omega);rw[if_pos hm] at hs;have hT:=jA hs;have J:Below w.heap.size w w4:=a1.o.trans (B.mono a1.o.size);obtain⟨Y,e9,r0,r1,Z,q0,q1,q2,q3⟩:=ji (A3.o.kept B) w J c6.o (.int .i64 6) (.int .i64 0);replace Z:=jA Z;clear J O B hs;go_wp2_with fail;refine bodyPost_ret (v:=.agg #[.int .i64 6,.int .i64 0]) (by simp[results,Tryz.results62,go_sem,r0,r1]) rfl ?_;exact⟨by rw[hT.o];rfl,by first|exact Z.o|(rw[<- b4];exact Z.o)⟩
    . have b1:decide ((U.length:Int)<(pn:Int))=false:=decide_eq_false (by omega);rw[if_neg hm] at hs;have hT:=jA hs;have J:Below w.heap.size w w4:=a1.o.trans (B.mono a1.o.size);obtain⟨Y,e9,r0,r1,Z,q0,q1,q2,q3⟩:=ji (A3.o.kept B) w J c6.o (.int .i64 0) (.int .i64 0);replace Z:=jA Z;clear J O B hs;go_wp2_with fail;refine bodyPost_ret (v:=.agg #[.int .i64 0,.int .i64 0]) (by simp[results,Tryz.results62,go_sem,r0,r1]) rfl ?_;exact⟨by rw[hT.o];rfl,by first|exact Z.o|(rw[<- b4];exact Z.o)⟩
