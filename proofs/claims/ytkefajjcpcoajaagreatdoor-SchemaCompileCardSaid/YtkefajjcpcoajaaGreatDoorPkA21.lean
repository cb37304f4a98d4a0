/- -/
import Derived.Test.YtkefajjcpcoajaaGreatDoorPkA0
import Derived.Test.YtkefajjcpcoajaaGreatDoorPkA20
set_option linter.all false
set_option maxRecDepth 100000
set_option maxHeartbeats 12800000
namespace Go.Proofs.YtkefajjcpcoajaaGreatDoor
open Go.RowKit Lx
namespace Lx
theorem uz{α:Type}{l:List α}{i:Nat}{a:α}(h:l[i]? = some a):l.drop i=a :: l.drop (i+1):=by
 obtain⟨m,y⟩:=List.getElem?_eq_some_iff.1 h;rw[List.drop_eq_getElem_cons m,y]
theorem UH{most j:Nat}{vs:List (List UInt8)}{v:List UInt8}(h:vs[j]? = some v) :
    j8 most (vs.take j) (vs.drop j)=if most<=j then 7 else if !xz v then 8 else if (vs.take j).contains v then 3 else j8 most (vs.take (j+1)) (vs.drop (j+1)):=by
 have m:=(List.getElem?_eq_some_iff.1 h).1;have e:(vs.take j).length=j:=by rw[List.length_take];omega
 rw[uz h,j8,e,qg h]
theorem Gb{most j:Nat}{vs:List (List UInt8)}(h:vs.length<=j):j8 most (vs.take j) (vs.drop j)=0:=by
 rw[List.drop_eq_nil_of_le h];rfl
end Lx
theorem Xc(r:jj)(vs:List (List UInt8))(ao:Option Addr)(n c:Nat)(w:World)(h:StrL qU w ao n c vs) :
    Calls Tryz.prog 171 #[.agg #[.string (stg r.kind),.string (stg r.key),.int .i64 r.form,.int .i64 r.least,.int .i64 r.most],.slice ao n c] w λe w'=>e=.returned (.int .i64 ((vL r vs:Nat):Int))/\Below w.heap.size w w':=by
 obtain⟨V,e1,AV,BV,hz⟩:=qG w 212 [.string (stg r.kind),.string (stg r.key),.int .i64 r.form,.int .i64 r.least,.int .i64 r.most];have a8:=Row.cap h;have a5:=Row.room h;have J:=jA (StrL.len h);obtain⟨E,hE⟩:=jx1 (vL r vs);rw[hE.o];obtain⟨M1,a3⟩:∃M,Hid (((r.least:Nat):Int)=M):=⟨_,rfl⟩;obtain⟨M2,a0⟩:∃M,Hid (((r.most:Nat):Int)=M):=⟨_,rfl⟩;rw[a3.o,a0.o] at e1 AV;rw[a3.o,a0.o];have A0:=jA AV;have HB:Hid (Below w.heap.size w V):=BV;have H:=jA (StrL.below h BV);have y3:V.cell? ⟨w.heap.size,3,none⟩=some (.int .i64 M1):=AV.cell 3;clear h AV BV hz;by_cases h1:n<r.least
 . have b1:decide ((n:Int)<M1)=true:=decide_eq_true (by rw[<- a3.o];omega);(have a1:Hid (E=7):=by show _=_;rw[<- hE.o];unfold vL;rw[J.o,if_pos h1]);clear h1;go_in;go_wp2_with fail;go_ret;exact⟨by rw[a1.o];rfl,HB.o⟩
 . have b1:decide ((n:Int)<M1)=false:=decide_eq_false (by rw[<- a3.o];omega);(have a1:Hid (E=j8 r.most (vs.take 0) (vs.drop 0)):=by show _=_;rw[<- hE.o];unfold vL;rw[J.o,if_neg h1];rfl);clear h1;go_in;go_wp2_with fail;clear y3 e1;(go_loopw [5,6,14] (λ_ _ i wr=>∃j:Nat,j<=n/\i=.int .i64 (j:Int)/\Below V.heap.size V wr/\Hid (E=j8 r.most (vs.take j) (vs.drop j))) (λ_ _ i _=>n-(intOf i).toNat));(case atStart=>exact⟨0,Nat.zero_le _,rfl,Below.refl _ _,a1.o⟩);case round =>
    obtain⟨w1,a6⟩:∃x,x=wr:=⟨_,rfl⟩;subst a6;clear a1;obtain⟨j,hj,rfl,B,HE⟩:=hrel;have y4:w1.cell? ⟨w.heap.size,4,none⟩=some (.int .i64 M2):=(A0.o.kept B).cell 4;by_cases a7:j<n
    . (have a4:(j:Int)<(n:Int):=by omega);obtain⟨v,a,hv,i1,c1⟩:=(StrL.below H.o B).get j a7;have m:=HE.o;rw[UH hv] at m;have Z:=Db v w1;(have HC:=λw2 (hb:Below w1.heap.size w1 w2)=>vw (vs.take j) v ao j c w2 (StrL.take (StrL.below (StrL.below H.o B) hb) (by omega)));obtain⟨K,hK⟩:=jx1 (stg v);rw[hK.o] at c1 Z HC;replace Z:=jA Z;replace HC:=jA HC;have y:Hid (Below w.heap.size w w1):=HB.o.trans (B.mono HB.o.size);by_cases h2:r.most<=j
      . have b2:decide (M2<=(j:Int))=true:=decide_eq_true (by rw[<- a0.o];omega);rw[if_pos h2] at m;replace m:=jA m;clear h2 B;go_wp2_with fail;go_ret;exact⟨by rw[m.o];rfl,y.o⟩
      . have b2:decide (M2<=(j:Int))=false:=decide_eq_false (by rw[<- a0.o];omega);rw[if_neg h2] at m;cases a2:xz v with
        | false =>
         rw[a2] at m Z;replace m:Hid (E=8):=m;clear h2 B a2;go_wp2_with fail;refine Z.o.mono ?_;rintro e w2 ⟨rfl,G⟩;replace G:Hid (Below w.heap.size w w2):=y.o.trans (G.mono y.o.size);clear Z;go_wp2_with fail;go_ret;exact⟨by rw[m.o];rfl,G.o⟩
        | true =>
         rw[a2] at m Z;(replace m:E=if (vs.take j).contains v then 3 else j8 r.most (vs.take (j+1)) (vs.drop (j+1)):=m);obtain⟨z,hz⟩:=jx3 ((vs.take j).contains v);rw[hz] at m HC;clear h2 a2 hz;have B:=jA B;cases z with
         | true =>
          replace m:Hid (E=3):=m;go_wp2_with fail;refine Z.o.mono ?_;rintro e w2 ⟨rfl,G⟩;have HJ:=jA (HC.o w2 G);replace G:Hid (Below w.heap.size w w2):=y.o.trans (G.mono y.o.size);clear Z HC;go_wp2_with fail;refine HJ.o.mono ?_;rintro e w3 ⟨rfl,rfl⟩;clear HJ;go_wp2_with fail;go_ret;exact⟨by rw[m.o];rfl,G.o⟩
         | false =>
          replace m:Hid (E=j8 r.most (vs.take (j+1)) (vs.drop (j+1))):=m;go_wp2_with fail;refine Z.o.mono ?_;rintro e w2 ⟨rfl,G⟩;have HJ:=jA (HC.o w2 G);replace G:Hid (Below V.heap.size V w2):=B.o.trans (G.mono B.o.size);clear Z HC;go_wp2_with fail;refine HJ.o.mono ?_;rintro e w3 ⟨rfl,rfl⟩;clear HJ;go_wp2_with fail;go_roundw;(case rel=>exact⟨j+1,by omega,by go_num,G.o,m.o⟩);case measure=>simp[intOf];omega
    . (have a4:¬ (j:Int)<(n:Int):=by omega);(have m:Hid (E=0):=by show _=_;rw[HE.o];exact Gb (by rw[J.o];omega));have y:Hid (Below w.heap.size w w1):=HB.o.trans (B.mono HB.o.size);clear B;go_wp2_with fail;go_ret;exact⟨by rw[m.o];rfl,y.o⟩
namespace Lx
def UI(r:jj)(v:List UInt8):Prop:=(r.form=0\/r.form=3)->v.length<=1000000
def yv(kind:List UInt8)(f:zC):Prop:=∀r,zi kind f.key=some r->∀v∈f.vals,UI r v
end Lx
theorem jW(a b:Nat)(c:Int)(h:c=(b:Int)):((a:Int) == c)=decide (a=b):=by
 subst h;by_cases e:a=b
 . subst e;simp
 . rw[decide_eq_false e];simp;omega
theorem Xd(r:jj)(v:List UInt8)(w:World)(hs:UI r v)(hT:Tabs w) :
    Calls Tryz.prog 172 #[.agg #[.string (stg r.kind),.string (stg r.key),.int .i64 r.form,.int .i64 r.least,.int .i64 r.most],.string (stg v)] w λe w'=>e=.returned (.int .i64 ((xf r v:Nat):Int))/\Below w.heap.size w w':=by
 obtain⟨V,e1,AV,BV,hz⟩:=qG w 212 [.string (stg r.kind),.string (stg r.key),.int .i64 r.form,.int .i64 r.least,.int .i64 r.most];have G:=λh=>Jj r v V h (hT.below BV)
 have H:=λh=>Vm v V h (hT.below BV)
 have HX:=Zj v 24 V (by omega);have J:=V9 r.key v V;have q0:=jW r.form 0 0 rfl;have q1:=jW r.form 1 1 rfl;have q3:=jW r.form 3 3 rfl;have q4:=jW r.form 4 4 rfl;have m:xf r v=if r.form=0 then Ux r v else if r.form=1 then (if xP r.key v=0 then 2 else 0) else if r.form=3 then jl v else if r.form=4 then (if !jw v 24 then 8 else 0) else 0:=rfl
 obtain⟨E,hE⟩:=jx1 (xf r v);rw[hE.o] at m |-;unfold UI at hs;obtain⟨F,hF⟩:=jx3 (r.form);obtain⟨K,hK⟩:=jx1 (stg v);obtain⟨X1,a2⟩:∃K,Hid (stg r.kind=K):=⟨_,rfl⟩;obtain⟨X2,a0⟩:∃K,Hid (stg r.key=K):=⟨_,rfl⟩;obtain⟨M1,a3⟩:∃M,Hid (((r.least:Nat):Int)=M):=⟨_,rfl⟩;obtain⟨M2,a1⟩:∃M,Hid (((r.most:Nat):Int)=M):=⟨_,rfl⟩;rw[hF] at hs q0 q1 q3 q4 m;rw[hF,a2.o,a0.o,a3.o,a1.o] at e1 AV G;rw[hF,a2.o,a0.o,a3.o,a1.o,hK.o];rw[hK.o] at G H HX J;rw[a0.o] at J;obtain⟨y0,y1,y2,y3,y4⟩:=AV.c5;have HB:=jA BV;clear hT AV BV hz hF;by_cases Z:F=0
 . rw[decide_eq_true Z] at q0;rw[if_pos Z] at m;have G:=G (hs (Or.inl Z));rw[<- m] at G;replace G:=jA G;clear Z hs m H HX J q1 q3 q4;go_in;go_wp2_with fail;refine G.o.mono ?_;rintro e w1 ⟨rfl,y⟩;replace y:Hid (Below w.heap.size w w1):=HB.o.trans (y.mono HB.o.size);clear G;go_wp2_with fail;go_ret;exact⟨rfl,y.o⟩
 rw[decide_eq_false Z] at q0;rw[if_neg Z] at m;by_cases h1:F=1
 . rw[decide_eq_true h1] at q1;rw[if_pos h1] at m;obtain⟨C,hC⟩:=jx3 (xP r.key v);rw[hC] at m J;have qc:=jW C 0 0 rfl;replace J:=jA J;clear Z h1 hs H HX G q3 q4 hC;by_cases hc:C=0;rw[if_pos hc] at m;rw[decide_eq_true hc] at qc
   rotate_left
   rw[if_neg hc] at m;rw[decide_eq_false hc] at qc
   rotate_left
   all_goals
     replace m:=jA m;clear hc;go_in;go_wp2_with fail;refine J.o.mono ?_;rintro e w1 ⟨rfl,y⟩;replace y:Hid (Below w.heap.size w w1):=HB.o.trans (y.mono HB.o.size);clear J;go_wp2_with fail;go_ret;exact⟨by rw[m.o];rfl,y.o⟩
 rw[decide_eq_false h1] at q1;rw[if_neg h1] at m;by_cases h3:F=3
 . rw[decide_eq_true h3] at q3;rw[if_pos h3] at m;have H:=H (hs (Or.inr h3));rw[<- m] at H;replace H:=jA H;clear Z h1 h3 hs m G HX J q4;go_in;go_wp2_with fail;refine H.o.mono ?_;rintro e w1 ⟨rfl,y⟩;replace y:Hid (Below w.heap.size w w1):=HB.o.trans (y.mono HB.o.size);clear H;go_wp2_with fail;go_ret;exact⟨rfl,y.o⟩
 rw[decide_eq_false h3] at q3;rw[if_neg h3] at m;by_cases h4:F=4
 . rw[decide_eq_true h4] at q4;rw[if_pos h4] at m;obtain⟨z,hz⟩:=jx3 (jw v 24);rw[hz] at m HX;replace HX:Hid (jC 59 #[.string K,.int .i64 24] V λe w'=>e=.returned (.bool z)/\Below V.heap.size V w'):=HX;clear Z h1 h3 h4 hs G H J hz;cases z;replace m:Hid (E=8):=m
   rotate_left
   replace m:Hid (E=0):=m
   rotate_left
   all_goals
     go_in;go_wp2_with fail;refine HX.o.mono ?_;rintro e w1 ⟨rfl,y⟩;replace y:Hid (Below w.heap.size w w1):=HB.o.trans (y.mono HB.o.size);clear HX;go_wp2_with fail;go_ret;exact⟨by rw[m.o];rfl,y.o⟩
 rw[decide_eq_false h4] at q4;rw[if_neg h4] at m;replace m:=jA m;clear Z h1 h3 h4 hs G H J HX;go_in;go_wp2_with fail;go_ret;exact⟨by rw[m.o];rfl,HB.o⟩
theorem Xe(kind:List UInt8)(fs:List zC)(f:zC)(eo vo:Option Addr)(en ec vn vc:Nat)(w:World)(hE:FldS qU w eo en ec fs)(hV:StrL qU w vo vn vc f.vals)(hs:yv kind f)(hT:Tabs w) :
    Calls Tryz.prog 112 #[.string (stg kind),.slice eo en ec,.agg #[.string (stg f.key),.slice vo vn vc,.int .i64 f.line]] w λe w'=>e=.returned (.int .i64 ((jp kind fs f:Nat):Int))/\Below w.heap.size w w':=by
 obtain⟨V,e1,AV,BV,hz⟩:=qG w 63 [.string (stg f.key),.slice vo vn vc,.int .i64 f.line];have J:=Ji kind f.key V (hT.below BV);have a3:=jA (StrL.len hV);have d2:=Row.cap hV;have c6:=Row.room hV;have HE:=jA (hE.below BV);have c8:=jA (StrL.below hV BV);have HT:=jA (hT.below BV);obtain⟨E,b2⟩:=jx1 (jp kind fs f);rw[b2.o];have m:jp kind fs f=match zi kind f.key with
  | none=>2
  | some r=>if fs.any (λg=>decide (g.key=f.key)) then 3 else if r.form=2 then vL r f.vals else if f.vals.length≠1 then 7 else xf r ((f.vals[0]?).getD []):=rfl
 rw[b2.o] at m;obtain⟨g,hg⟩:=jx3 (w.heap.size);rw[hg] at AV;have A0:=jA AV;have HB:Hid (Below w.heap.size w V):=BV;obtain⟨KD,b1⟩:∃K,Hid (stg kind=K):=⟨_,rfl⟩;obtain⟨KK,a1⟩:∃K,Hid (stg f.key=K):=⟨_,rfl⟩;obtain⟨LN,b5⟩:∃K,Hid (f.line=K):=⟨_,rfl⟩;have y0:V.cell? ⟨g,0,none⟩=some (.string (stg f.key)):=AV.cell 0;rw[a1.o,b5.o] at e1;rw[a1.o] at y0;rw[b1.o,a1.o] at J;rw[b1.o,a1.o,b5.o];clear hE hV AV BV hz hT;unfold yv at hs;cases hr:zi kind f.key with
 | none =>
  rw[hr] at J m;replace J:Hid (jC 168 #[.string KD,.string KK] V λe w'=>e=.returned (.tuple #[.agg #[.string ⟨#[]⟩,.string ⟨#[]⟩,.int .i64 0,.int .i64 0,.int .i64 0],.bool false])/\Below V.heap.size V w'):=J;replace m:Hid (E=2):=m;clear hr hs;go_in;go_wp2_with fail;refine J.o.mono ?_;rintro e w1 ⟨rfl,B1⟩;obtain⟨U,e3,AU,BU,_⟩:=qG w1 212 [.string ⟨#[]⟩,.string ⟨#[]⟩,.int .i64 0,.int .i64 0,.int .i64 0];obtain⟨U',U2,e4,e5,d0,b3,a5,f0,f1,f2,f3,f4,f5,f6,f7,f8,f9⟩:=gb w1 212 (.string ⟨#[]⟩) (.string ⟨#[]⟩) (.int .i64 0) (.int .i64 0) (.int .i64 0) (.string ⟨#[]⟩) (.string ⟨#[]⟩) (.int .i64 0) (.int .i64 0) (.int .i64 0);have BF:Hid (Below w.heap.size w U2):=(HB.o.trans (B1.mono HB.o.size)).trans (b3.mono (HB.o.trans (B1.mono HB.o.size)).size);clear J e3 AU BU d0 b3 a5 B1;go_wp2_with fail;go_ret;exact⟨by rw[m.o];rfl,by first|exact BF.o|(rw[<- hg];exact BF.o)⟩
 | some r =>
  rw[hr] at J m;replace hs:=hs r hr;obtain⟨X1,a6⟩:∃K,Hid (stg r.kind=K):=⟨_,rfl⟩;obtain⟨X2,a7⟩:∃K,Hid (stg r.key=K):=⟨_,rfl⟩;obtain⟨M0,a2⟩:∃M,Hid (((r.form:Nat):Int)=M):=⟨_,rfl⟩;obtain⟨M1,a8⟩:∃M,Hid (((r.least:Nat):Int)=M):=⟨_,rfl⟩;obtain⟨M2,a4⟩:∃M,Hid (((r.most:Nat):Int)=M):=⟨_,rfl⟩;replace J:Calls Tryz.prog 168 #[.string KD,.string KK] V λe w'=>e=.returned (.tuple #[.agg #[.string (stg r.kind),.string (stg r.key),.int .i64 r.form,.int .i64 r.least,.int .i64 r.most],.bool true])/\Below V.heap.size V w':=J
  rw[a6.o,a7.o,a2.o,a8.o,a4.o] at J;replace J:=jA J;replace m:E=if fs.any (λg=>decide (g.key=f.key)) then 3 else if r.form=2 then vL r f.vals else if f.vals.length≠1 then 7 else xf r ((f.vals[0]?).getD []):=m
  obtain⟨Z,hZ⟩:∃Z,fs.any (λg=>decide (g.key=f.key))=Z:=⟨_,rfl⟩;rw[hZ] at m;have hq:=jW r.form 2 2 rfl;rw[a2.o] at hq;replace m:=jA m;replace hs:=jA hs;replace hZ:=jA hZ;clear hr;go_in;go_wp2_with fail;refine J.o.mono ?_;rintro e w1 ⟨rfl,B1⟩;obtain⟨U',U,e4,e5,AU,BU,a5,f0,f1,f2,f3,f4,f5,f6,f7,f8,f9⟩:=gb w1 212 (.string ⟨#[]⟩) (.string ⟨#[]⟩) (.int .i64 0) (.int .i64 0) (.int .i64 0) (.string X1) (.string X2) (.int .i64 M0) (.int .i64 M1) (.int .i64 M2);obtain⟨p,hp⟩:=jx3 (w1.heap.size);rw[hp] at AU e5 f0 f1 f2 f3 f4 f5 f6 f7 f8 f9;have a0:Below V.heap.size V U:=B1.trans (BU.mono B1.size);have AR:=jA AU;have AF:=jA (A0.o.kept a0);have HC:=NJ fs f.key g eo en ec U (HE.o.below a0) (AF.o.cell 0);rw[hZ.o] at HC;replace HC:=jA HC;have b8:=jA (StrL.below c8.o a0);have d1:=jA (HT.o.below a0);have BW:Hid (Below w.heap.size w U):=HB.o.trans (a0.mono HB.o.size);clear J AU BU a5 B1 a0 y0;go_wp2_with fail;clear f0 f1 f2 f3 f4 f5 f6 f7 f8 f9 e4 e5;refine HC.o.mono ?_;rintro e w2 ⟨rfl,B2⟩;have b6:=jA (AR.o.kept B2);have b7:=jA (AF.o.kept B2);have b4:=jA (StrL.below b8.o B2);have c7:=jA (d1.o.below B2);have H:Hid (Below w.heap.size w w2):=BW.o.trans (B2.mono BW.o.size);obtain⟨x0,x1,x2,x3,x4⟩:=b6.o.c5;have z1:w2.cell? ⟨g,1,none⟩=some (.slice vo vn vc):=b7.o.cell 1;clear HC B2;cases Z with
  | true =>
   have b9:Hid (E=3):=m.o;go_wp2_with fail;go_ret;exact⟨by rw[b9.o];rfl,by first|exact H.o|(rw[<- hg];exact H.o)⟩
  | false =>
   (have y:E=if r.form=2 then vL r f.vals else if f.vals.length≠1 then 7 else xf r ((f.vals[0]?).getD []):=m.o);by_cases hf:r.form=2
   . rw[if_pos hf] at y;rw[decide_eq_true hf] at hq;have HN:=Xc r f.vals vo vn vc w2 b4.o;rw[<- y,a6.o,a7.o,a2.o,a8.o,a4.o] at HN;replace HN:=jA HN;clear hf y;go_wp2_with fail;refine HN.o.mono ?_;rintro e w3 ⟨rfl,G⟩;replace G:Hid (Below w.heap.size w w3):=H.o.trans (G.mono H.o.size);clear HN;go_wp2_with fail;go_ret;exact⟨rfl,by first|exact G.o|(rw[<- hg];exact G.o)⟩
   . rw[if_neg hf] at y;rw[decide_eq_false hf] at hq;by_cases h1:vn=1
     . rw[if_neg (by rw[a3.o];simp[h1])] at y;subst h1;obtain⟨v,a,hv,i1,c1⟩:=StrL.get b4.o 0 (by omega);have d3:∀W,(Instr.indexAt 26 (.slice vo 1 vc) (.int .i64 0)).run Tryz.prog W=.ok (.pointer (some a)) W:=i1;rw[hv] at y;replace y:E=xf r v:=y;have b0:v∈f.vals:=List.mem_of_getElem? hv;have HX:=Xd r v w2.drew (hs.o v b0) (c7.o.below (Below.refl _ _).drew);rw[<- y,a6.o,a7.o,a2.o,a8.o,a4.o] at HX;obtain⟨K,hK⟩:=jx1 (stg v);rw[hK.o] at c1 HX;replace HX:=jA HX;have a9:Hid (Below w.heap.size w w2.drew):=H.o.drew;clear hf y hv i1 b0;go_wp2_with fail;(go_region_held3 (λw'=>w'.cell? ⟨p,0,none⟩=some (.string X1)/\w'.cell? ⟨p,1,none⟩=some (.string X2)/\w'.cell? ⟨p,2,none⟩=some (.int .i64 M0)/\w'.cell? ⟨p,3,none⟩=some (.int .i64 M1)/\w'.cell? ⟨p,4,none⟩=some (.int .i64 M2)/\w'.cell? ⟨g,1,none⟩=some (.slice vo 1 vc)/\w'.cell? a=some (.string K)) (go_keep) ((go_at_call 172;(with_reducible refine HX.o.mono ?_);rintro e w3 ⟨rfl,G⟩;have k0:=qA (w:=w2.drew) x0 G;have k1:=qA (w:=w2.drew) x1 G;have k2:=qA (w:=w2.drew) x2 G;have k3:=qA (w:=w2.drew) x3 G;have k4:=qA (w:=w2.drew) x4 G;have k5:=qA (w:=w2.drew) z1 G;have k6:=qA (w:=w2.drew) c1 G;have G:=jA (a9.o.trans (G.mono a9.o.size)))));all_goals
         go_wp2_with fail;go_ret;exact⟨rfl,by first|exact G.o|(rw[<- hg];exact G.o)⟩
     . (have d4:((vn:Int) == 1)=false:=by simp;omega);rw[if_pos (by rw[a3.o];exact h1)] at y;replace y:=jA y;clear hf;go_wp2_with fail;go_ret;exact⟨by rw[y.o];rfl,by first|exact H.o|(rw[<- hg];exact H.o)⟩
theorem QW:(Tryz.prog.info? 9).map (λi=>(i.zero,i.size,i.bytes))=some (some (.string ⟨#[]⟩),1,16):=by kernel_rfl
theorem K5(bs:List qK)(ao:Option Addr)(n c:Nat)(w:World)(h:BlkS qU w ao n c bs)(hn:n<=2000000) :
    Calls Tryz.prog 117 #[.slice ao n c] w λe w'=>∃ro m d,e=.returned (.slice ro m d)/\StrL (qS w.heap.size [9]) w' ro m d (jk bs)/\Below w.heap.size w w':=by
 obtain⟨a4,a1⟩:=h.caps;have y:=jA h.len;have H:=jA h.low;clear h;go_in;go_wp2_with fail;go_loopw [3,5,8] (λv _ i wr=>∃ (j:Nat) (ro:Option Addr) (d:Nat),j<=n/\i=.int .i64 (j:Int)/\v=.slice ro j d/\wr.ownsRow w.heap.size 9 1 (.slice ro j d) j ((jk (bs.take j)).map λv=>.string (stg v))/\Below w.heap.size w wr) (λ_ _ i _=>n-(intOf i).toNat)
 case atStart=>exact⟨0,none,0,Nat.zero_le _,rfl,rfl,World.ownsRow_nil _ _ _ _,Below.refl _ _⟩
 case round =>
  obtain⟨w1,a2⟩:∃x,x=wr:=⟨_,rfl⟩;subst a2;obtain⟨j,ro,d,hj,rfl,rfl,O,B⟩:=hrel;by_cases a3:j<n
  . (have G:(j:Int)<(n:Int):=by omega);obtain⟨b,a,fo,fn,fc,hb,i1,c0,c1,c2,c3,FL⟩:=(H.o.keep (qp _) (zN B)).get j a3;obtain⟨V,J,e1,e2,AW,BW,zW,f0,f1,f2,f3,f4,f5,f6,f7⟩:=xl w1 55 (.string ⟨#[]⟩) (.string ⟨#[]⟩) (.slice none 0 0) (.int .i64 0) (.string (stg b.kind)) (.string (stg b.name)) (.slice fo fn fc) (.int .i64 b.line);have y1:J.cell? ⟨w1.heap.size,1,none⟩=some (.string (stg b.name)):=AW.cell 1;obtain⟨K,hK⟩:=jx1 (stg b.kind);obtain⟨N,hN⟩:∃K,Hid (stg b.name=K):=⟨_,rfl⟩;rw[hK.o] at c0 e2 f2 f3 f4 f5 f6 f7;rw[hN.o] at c1 e2 y1 f4 f5 f6 f7;have B2:Hid (Below w.heap.size w J):=B.trans (BW.mono B.size);have O2:Hid (J.ownsRow w.heap.size 9 1 (.slice ro j d) j ((jk (bs.take j)).map λv=>.string (stg v))):=qQ O BW;have HS:Hid ((jk (bs.take (j+1))).map (λv=>Value.string (stg v))=(jk (bs.take j)).map (λv=>Value.string (stg v))++[.string N]):=by
     show _=_;unfold jk;rw[qg hb,List.map_append,List.map_append,<- hN.o];rfl
    have hz:w.heap.size<=J.heap.size:=B2.o.size;clear O B BW FL AW zW hb;go_wp2_with (at_builtin;refine xM (vs:=[.string N]) Tryz.underlying26 QW rfl (by decide) (by decide) O2.o hz (by omega) rfl (by intro u hu;simp at hu;subst hu;rfl) rfl rfl ?_);intro a0 d3 w3 Z G3 B3;have B4:Hid (Below w.heap.size w w3):=B2.o.trans B3;rw[<- HS.o] at Z;have O4:=jA Z;clear Z G3 B3 e1 e2 f0 f1 f2 f3 f4 f5 f6 f7 y1 c0 c1 c2 c3 i1 hz;go_wp2_with fail;go_roundw;(case rel=>exact⟨j+1,a0,d3,by omega,by go_num,rfl,O4.o,B4.o⟩);case measure=>simp[intOf];omega
  . (have G:¬ (j:Int)<(n:Int):=by omega);have hR:Hid (bs.take j=bs):=List.take_of_length_le (by have:=y.o;omega);rw[hR.o] at O;replace O:=jA O;replace B:=jA B;go_wp2_with fail;go_ret;exact⟨ro,j,d,rfl,Row.own O.o (by decide),B.o⟩
theorem Gc(bs:List qK)(ao:Option Addr)(n c:Nat)(w:World)(h:BlkS qU w ao n c bs)(hn:n<=2000000) :
    Calls Tryz.prog 117 #[.slice ao n c] w λe w'=>∃ro m d,e=.returned (.slice ro m d)/\StrL qU w' ro m d (jk bs)/\Below w.heap.size w w' :=
 (K5 bs ao n c w h hn).mono λ_ _ ⟨ro,m,d,h1,h2,h3⟩=>⟨ro,m,d,h1,Row.mono h2 kE,h3⟩
theorem wA(bs:List qK)(ao:Option Addr)(n c:Nat)(w:World)(h:BlkS qU w ao n c bs)(hn:n<=2000000) :
    Calls Tryz.prog 64 #[.slice ao n c] w λe w'=>∃ro m d,e=.returned (.slice ro m d)/\(∃B,w.heap.size<=B/\StrL (qS B [9]) w' ro m d (jD bs))/\Below w.heap.size w w':=by
 have HK:Hid (jC 61 #[.slice ao n c,.string ⟨#[99,111,110,116,101,115,116]⟩] w λe w'=>∃ro m d,e=.returned (.slice ro m d)/\BlkS qU w' ro m d (qH qF bs)/\Below w.heap.size w w'):=ux bs qF ao n c w h hn;have G:=jA h.len;clear h;go_in;go_wp2_with fail;refine HK.o.mono ?_;rintro e w1 ⟨ro,m,d,rfl,BL,H⟩;have y:Hid (w.heap.size<=w1.heap.size):=H.size;have J:=K5 (qH qF bs) ro m d w1 BL (by have h1:=BL.len;have h2:=jn qF bs;have:=G.o;omega);replace J:=jA J;replace H:=jA H;clear HK BL;go_wp2_with fail;refine J.o.mono ?_;rintro e w2 ⟨Z,m2,d2,rfl,SL,V⟩;replace V:Hid (Below w.heap.size w w2):=H.o.trans (V.mono H.o.size);replace SL:=jA SL;clear J;go_wp2_with fail;go_ret;exact⟨Z,m2,d2,rfl,⟨_,y.o,SL.o⟩,V.o⟩
theorem Zr(bs:List qK)(ao:Option Addr)(n c:Nat)(w:World)(h:BlkS qU w ao n c bs)(hn:n<=2000000) :
    Calls Tryz.prog 64 #[.slice ao n c] w λe w'=>∃ro m d,e=.returned (.slice ro m d)/\StrL qU w' ro m d (jD bs)/\Below w.heap.size w w' :=
 (wA bs ao n c w h hn).mono λ_ _ ⟨ro,m,d,h1,⟨_,_,h2⟩,h3⟩=>⟨ro,m,d,h1,Row.mono h2 kE,h3⟩
namespace Lx
def Zs(most:Nat)(same:List qK)(name:List UInt8):Nat:=if name=[] then 6 else if 24<name.length || !zv name then 8 else if (jk same).contains name then 3 else if most<=same.length then 7 else 0
theorem FO(earlier:List qK)(b:qK):xm earlier b=match vJ b.kind with
 | none=>2
 | some r=>if r.named then Zs r.most (qH b.kind earlier) b.name else if b.name≠[] then 2 else if r.most<=(qH b.kind earlier).length then 3 else 0:=rfl
end Lx
theorem Xf(r:ZG)(same:List qK)(name:List UInt8)(ao:Option Addr)(n c:Nat)(w:World)(h:BlkS qU w ao n c same)(hn:n<=2000000) :
    Calls Tryz.prog 167 #[.agg #[.string (stg r.kind),.int .i64 r.most,.bool r.named],.slice ao n c,.string (stg name)] w λe w'=>e=.returned (.int .i64 ((Zs r.most same name:Nat):Int))/\Below w.heap.size w w':=by
 obtain⟨V,e1,AV,BV,hz⟩:=qG w 112 [.string (stg r.kind),.int .i64 r.most,.bool r.named];have HN:=Gc same ao n c;have HL:=h.below BV;have a3:=jA h.len;obtain⟨a7,a6⟩:=h.caps;have G:(stg name).size=name.length:=by rw[<- zR,zL]
 obtain⟨E,hE⟩:=jx1 (Zs r.most same name);rw[hE.o];have y:E=if name=[] then 6 else if 24<name.length || !zv name then 8 else if (jk same).contains name then 3 else if r.most<=same.length then 7 else 0:=hE.o.symm
 obtain⟨X1,a4⟩:∃K,Hid (stg r.kind=K):=⟨_,rfl⟩;obtain⟨M1,a1⟩:∃M,Hid (((r.most:Nat):Int)=M):=⟨_,rfl⟩;rw[a4.o,a1.o] at e1 AV;rw[a4.o,a1.o];have A0:=jA AV;have HB:Hid (Below w.heap.size w V):=BV;clear h AV BV hz;by_cases h0:name=[]
 . subst h0;rw[if_pos rfl] at y;replace y:=jA y;(have t0:(stg []).toList=[]:=by rw[ByteArray.toList_eq];rfl);(have t1:(stg []).toList.isEmpty=true:=by rw[t0];rfl);clear HN HL G;go_in;go_wp2_with fail;go_ret;exact⟨by rw[y.o];rfl,HB.o⟩
 rw[if_neg h0] at y;have a2:(stg name).toList≠[]:=by rw[ByteArray.toList_eq];exact h0
 have a5:(stg name).toList.isEmpty=false:=by rw[List.isEmpty_eq_false_iff];exact a2
 by_cases h1:24<name.length
 . rw[decide_eq_true h1,Bool.true_or,if_pos rfl] at y;replace y:=jA y;obtain⟨K,hK⟩:=jx1 (stg name);rw[hK.o] at G a2 a5 |-;have b1:decide (24<K.size)=true:=decide_eq_true (by omega);have b2:decide ((24:Int)<(K.size:Int))=true:=decide_eq_true (by omega);(have b3:24<K.size:=by omega);clear HN HL G h0 h1;go_in;go_wp2_with fail;go_ret;exact⟨by rw[y.o];rfl,HB.o⟩
 rw[decide_eq_false h1,Bool.false_or] at y;have J:=Dc name V (by omega);have HC:=λ(vs:List (List UInt8)) ao n c w2 h=>vw (S:=qU) vs name ao n c w2 h
 obtain⟨K,hK⟩:=jx1 (stg name);rw[hK.o] at G a2 a5 J HC |-;have b1:decide (24<K.size)=false:=decide_eq_false (by omega);have b2:decide ((24:Int)<(K.size:Int))=false:=decide_eq_false (by omega);have b3:K.size<=24:=by omega
 cases hw:zv name with
 | false =>
  rw[hw] at y J;replace y:Hid (E=8):=y;replace J:=jA J;clear HN HL HC G h0 h1 hw;go_in;go_wp2_with fail;refine J.o.mono ?_;rintro e w1 ⟨rfl,B1⟩;replace B1:Hid (Below w.heap.size w w1):=HB.o.trans (B1.mono HB.o.size);clear J;go_wp2_with fail;go_ret;exact⟨by rw[y.o];rfl,B1.o⟩
 | true =>
  rw[hw] at y J;replace y:E=if (jk same).contains name then 3 else if r.most<=same.length then 7 else 0:=y
  obtain⟨Z,hZ⟩:=jx3 ((jk same).contains name);rw[hZ,a3.o] at y;have H:=λao n c w2 h=>HC (jk same) ao n c w2 h
  rw[hZ] at H;have a0:=λw1 (hb:Below V.heap.size V w1)=>HN w1 (HL.below hb) hn
  replace J:=jA J;replace H:=jA H;replace a0:=jA a0;replace y:=jA y;clear HN HL HC G h0 h1 hw hZ;go_in;go_wp2_with fail;refine J.o.mono ?_;rintro e w1 ⟨rfl,B1⟩;have HJ:=jA (a0.o w1 B1);have A1:=jA (A0.o.kept B1);replace B1:Hid (Below w.heap.size w w1):=HB.o.trans (B1.mono HB.o.size);clear J a0;go_wp2_with fail;refine HJ.o.mono ?_;rintro e w2 ⟨ro,m,d,rfl,SL,B2⟩;have HJ:=jA (H.o ro m d w2 SL);have A2:=jA (A1.o.kept B2);have y1:w2.cell? ⟨w.heap.size,1,none⟩=some (.int .i64 M1):=A2.o.cell 1;replace B2:Hid (Below w.heap.size w w2):=B1.o.trans (B2.mono B1.o.size);clear H SL;cases Z;replace y:E=if r.most<=n then 7 else 0:=y.o
  by_cases h2:r.most<=n;rw[if_pos h2] at y;have b4:decide (M1<=(n:Int))=true:=decide_eq_true (by rw[<- a1.o];omega);replace y:=jA y;clear h2
  rotate_left
  rw[if_neg h2] at y;have b4:decide (M1<=(n:Int))=false:=decide_eq_false (by rw[<- a1.o];omega);replace y:=jA y;clear h2
  rotate_left
  replace y:Hid (E=3):=y.o
  rotate_left
  all_goals
    go_wp2_with fail;refine HJ.o.mono ?_;rintro e w3 ⟨rfl,rfl⟩;clear HJ;go_wp2_with fail;go_ret;exact⟨by rw[y.o];rfl,B2.o⟩
theorem Vo(earlier:List qK)(b:qK)(ao fo:Option Addr)(n c fn fc:Nat)(w:World)(h:BlkS qU w ao n c earlier)(hn:n<=2000000)(hT:Tabs w) :
    Calls Tryz.prog 111 #[.slice ao n c,.agg #[.string (stg b.kind),.string (stg b.name),.slice fo fn fc,.int .i64 b.line]] w λe w'=>e=.returned (.int .i64 ((xm earlier b:Nat):Int))/\Below w.heap.size w w':=by
 obtain⟨V,e1,AV,BV,hz⟩:=qG w 55 [.string (stg b.kind),.string (stg b.name),.slice fo fn fc,.int .i64 b.line];have H:=Jh b.kind V (hT.below BV);have HL:=jA (h.below BV);have HK:=λw1 (hb:Below V.heap.size V w1)=>ux earlier b.kind ao n c w1 (HL.o.below hb) hn
 have a7:=jA h.len;have b8:=jA (jn b.kind earlier);obtain⟨E,hE⟩:=jx1 (xm earlier b);rw[hE.o];have y:=FO earlier b;rw[hE.o] at y;obtain⟨g,hg⟩:=jx3 (w.heap.size);rw[hg] at AV;have A0:=jA AV;have HB:Hid (Below w.heap.size w V):=BV;have y0:V.cell? ⟨g,0,none⟩=some (.string (stg b.kind)):=AV.cell 0;obtain⟨KD,a1⟩:∃K,Hid (stg b.kind=K):=⟨_,rfl⟩;obtain⟨KN,J⟩:∃K,Hid (stg b.name=K):=⟨_,rfl⟩;obtain⟨LN,a6⟩:∃K,Hid (b.line=K):=⟨_,rfl⟩;have b6:Hid (Arr V g 55 [.string KD,.string KN,.slice fo fn fc,.int .i64 LN]):=by show Arr _ _ _ _;rw[<- a1.o,<- J.o,<- a6.o];exact AV
 rw[a1.o,J.o,a6.o] at e1;rw[a1.o] at y0 H HK;rw[a1.o,J.o,a6.o];replace HK:=jA HK;clear h AV BV hz hT A0;cases hr:vJ b.kind with
 | none =>
  rw[hr] at H y;replace H:Hid (jC 166 #[.string KD] V λe w'=>e=.returned (.tuple #[.agg #[.string ⟨#[]⟩,.int .i64 0,.bool false],.bool false])/\Below V.heap.size V w'):=H;replace y:Hid (E=2):=y;clear hr HK;go_in;go_wp2_with fail;refine H.o.mono ?_;rintro e w1 ⟨rfl,B1⟩;obtain⟨U',U2,e4,e5,c6,b1,a5,f0,f1,f2,f3,f4,f5⟩:=ze w1 112 (.string ⟨#[]⟩) (.int .i64 0) (.bool false) (.string ⟨#[]⟩) (.int .i64 0) (.bool false);have BF:Hid (Below w.heap.size w U2):=(HB.o.trans (B1.mono HB.o.size)).trans (b1.mono (HB.o.trans (B1.mono HB.o.size)).size);clear H c6 b1 a5 B1;go_wp2_with fail;go_ret;exact⟨by rw[y.o];rfl,by first|exact BF.o|(rw[<- hg];exact BF.o)⟩
 | some r =>
  rw[hr] at H y;obtain⟨X1,b2⟩:∃K,Hid (stg r.kind=K):=⟨_,rfl⟩;obtain⟨M1,a3⟩:∃M,Hid (((r.most:Nat):Int)=M):=⟨_,rfl⟩;replace H:Calls Tryz.prog 166 #[.string KD] V λe w'=>e=.returned (.tuple #[.agg #[.string (stg r.kind),.int .i64 r.most,.bool r.named],.bool true])/\Below V.heap.size V w':=H
  rw[b2.o,a3.o] at H;obtain⟨Z,hZ⟩:=jx3 (r.named);replace y:E=if r.named then Zs r.most (qH b.kind earlier) b.name else if b.name≠[] then 2 else if r.most<=(qH b.kind earlier).length then 3 else 0:=y
  have a0:=λao n c w2 h hn=>Xf r (qH b.kind earlier) b.name ao n c w2 h hn
  rw[b2.o,a3.o,J.o] at a0;rw[hZ] at H y a0;replace H:=jA H;replace a0:=jA a0;replace y:=jA y;replace hZ:=jA hZ;clear hr;go_in;go_wp2_with fail;refine H.o.mono ?_;rintro e w1 ⟨rfl,B1⟩;obtain⟨U',U,e4,e5,AU,BU,a5,f0,f1,f2,f3,f4,f5⟩:=ze w1 112 (.string ⟨#[]⟩) (.int .i64 0) (.bool false) (.string X1) (.int .i64 M1) (.bool Z);obtain⟨p,hp⟩:=jx3 (w1.heap.size);rw[hp] at AU e5 f0 f1 f2 f3 f4 f5;have a2:Below V.heap.size V U:=B1.trans (BU.mono B1.size);have AR:=jA AU;have AF:=jA (b6.o.kept a2);have a9:=jA (HK.o U a2);have BW:Hid (Below w.heap.size w U):=HB.o.trans (a2.mono HB.o.size);have z0:U.cell? ⟨g,0,none⟩=some (.string KD):=AF.o.cell 0;clear H AU BU a5 B1 a2 y0 HK;go_wp2_with fail;clear f0 f1 f2 f3 f4 f5 e4 e5 z0;refine a9.o.mono ?_;rintro e w2 ⟨ro,m,d,rfl,BL,B2⟩;have a8:Hid ((qH b.kind earlier).length=m):=BL.len;have hm:m<=2000000:=by have h1:=a8.o;have h2:=b8.o;have h3:=a7.o;omega
  obtain⟨c7,b7⟩:=BL.caps;have b3:=jA (AR.o.kept B2);have b5:=jA (AF.o.kept B2);have HJ:=a0.o ro m d w2 BL hm;have a4:Hid (Below w.heap.size w w2):=BW.o.trans (B2.mono BW.o.size);obtain⟨x0,x1,x2⟩:=b3.o.c3;have z1:w2.cell? ⟨g,1,none⟩=some (.string KN):=b5.o.cell 1;clear a9 B2 a0 BL;cases Z;have G:E=if b.name≠[] then 2 else if r.most<=(qH b.kind earlier).length then 3 else 0:=y.o
  rw[a8.o] at G;clear HJ;by_cases h0:b.name=[];rw[if_neg (by simpa using h0)] at G;have t0:KN.toList=[]:=by rw[<- J.o,h0,ByteArray.toList_eq];rfl
  have t1:KN.toList.isEmpty=true:=by rw[t0];rfl
  by_cases h2:r.most<=m;rw[if_pos h2] at G;have b4:decide (M1<=(m:Int))=true:=decide_eq_true (by rw[<- a3.o];omega);replace G:=jA G;clear h2 h0
  rotate_left
  rw[if_neg h2] at G;have b4:decide (M1<=(m:Int))=false:=decide_eq_false (by rw[<- a3.o];omega);replace G:=jA G;clear h2 h0
  rotate_left
  rw[if_pos h0] at G;have b9:KN.toList≠[]:=by rw[<- J.o,ByteArray.toList_eq];exact h0
  have c8:KN.toList.isEmpty=false:=by rw[List.isEmpty_eq_false_iff];exact b9
  replace G:=jA G;clear h0
  rotate_left
  . have b0:E=Zs r.most (qH b.kind earlier) b.name:=y.o;rw[<- b0] at HJ;replace HJ:=jA HJ;clear b0;go_wp2_with fail;refine HJ.o.mono ?_;rintro e w3 ⟨rfl,B3⟩;replace B3:Hid (Below w.heap.size w w3):=a4.o.trans (B3.mono a4.o.size);clear HJ;go_wp2_with fail;go_ret;exact⟨rfl,by first|exact B3.o|(rw[<- hg];exact B3.o)⟩
  all_goals
    go_wp2_with fail;go_ret;exact⟨by rw[G.o];rfl,by first|exact a4.o|(rw[<- hg];exact a4.o)⟩
