/- -/
import Derived.Test.YtkefajjcpcoajaaGreatDoorPkA0
import Derived.Test.YtkefajjcpcoajaaGreatDoorPkA21
set_option linter.all false
set_option maxRecDepth 100000
set_option maxHeartbeats 12800000
namespace Go.Proofs.YtkefajjcpcoajaaGreatDoor
open Go.RowKit Lx
namespace Lx
def wl(b:qK)(r:jj):Bool:=decide (r.kind=b.kind) && !(decide (r.key=qY) && !decide (kL b zG=2)) && !xQ b r.key
theorem QX(b:qK):jv b=zf.any (wl b):=rfl
theorem FP{α:Type}{p:α->Bool}{l:List α}{j:Nat}{a:α}(h:l[j]? = some a)(hp:p a=true):l.any p=true:=List.any_eq_true.2 ⟨a,List.mem_of_getElem? h,hp⟩
theorem PD{α:Type}{p:α->Bool}{l:List α}(hz:∀ (t:Nat) b,l[t]? = some b->p b=false):l.any p=false:=by
 rw[List.any_eq_false];intro x m;obtain⟨i,hi,rfl⟩:=List.mem_iff_getElem.1 m;rw[hz i _ (List.getElem?_eq_getElem hi)];decide
end Lx
theorem xN(u v:List UInt8):((stg u).toList == v)=decide (u=v):=by
 by_cases h:u=v
 . rw[decide_eq_true h,h];exact j9 v
 . rw[decide_eq_false h];exact jh h
theorem Xg(b:qK)(fo:Option Addr)(fn fc:Nat)(w:World)(h:FldS qU w fo fn fc b.flds)(hT:Tabs w) :
    Calls Tryz.prog 113 #[.agg #[.string (stg b.kind),.string (stg b.name),.slice fo fn fc,.int .i64 b.line]] w λe w'=>e=.returned (.bool (jv b))/\Below w.heap.size w w':=by
 obtain⟨tt,fr,hg⟩:=(hT.fld);obtain⟨V,e1,AV,BV,hz⟩:=qG w 55 [.string (stg b.kind),.string (stg b.name),.slice fo fn fc,.int .i64 b.line];have a3:V.heap[1]? = some (.cells gC.toArray tt fr):=(BV.block _ (Array.getElem?_eq_some_iff.1 hg).1).trans hg;replace a3:=jA a3;have HL:=jA (h.below BV);have Z:=λG (hb:Below V.heap.size V G)=>wU b zG fo fn fc G (HL.o.below hb)
 have J:=λk G (hb:Below V.heap.size V G)=>MZ b k fo fn fc G (HL.o.below hb)
 obtain⟨R,hR⟩:=jx1 (jv b);rw[hR.o];obtain⟨C,hC⟩:∃R,Hid (kL b zG=R):=⟨_,rfl⟩;rw[hC.o] at Z;have qc:=jW C 2 2 rfl;obtain⟨bb,a0⟩:∃b,w.heap.size=b:=⟨_,rfl⟩;rw[a0] at AV;obtain⟨KD,a4⟩:∃K,Hid (stg b.kind=K):=⟨_,rfl⟩;obtain⟨KN,a7⟩:∃K,Hid (stg b.name=K):=⟨_,rfl⟩;obtain⟨LN,a9⟩:∃K,Hid (b.line=K):=⟨_,rfl⟩;rw[a4.o,a7.o,a9.o] at e1 AV Z J;rw[a4.o,a7.o,a9.o];have A0:=jA AV;have HB:Hid (Below w.heap.size w V):=BV;replace Z:Hid (∀G (_:Below V.heap.size V G),jC 119 #[.agg #[.string KD,.string KN,.slice fo fn fc,.int .i64 LN],.string ⟨#[109,101,116,104,111,100]⟩] G λe w'=>e=.returned (.int .i64 (C:Int))/\Below G.heap.size G w'):=Z;replace J:=jA J;clear hT hg AV BV hz h;go_in;go_wp2_with (with_reducible refine wpList_load_row rfl 218 _ rfl 1 rfl tt gC.toArray fr _ a3.o Tryz.underlying218 rfl (by kernel_rfl) ?_);clear e1;go_loopw [4,5,7] (λ_ _ i wr=>∃j:Nat,j<=19/\i=.int .i64 (j:Int)/\Below V.heap.size V wr/\Hid (∀ (t:Nat) r,t<j->zf[t]? = some r->wl b r=false)) (λ_ _ i _=>19-(intOf i).toNat)
 case atStart=>exact⟨0,Nat.zero_le _,rfl,Below.refl _ _,λt g ht=>absurd ht (by omega)⟩
 case round =>
  obtain⟨G,b3⟩:∃x,x=wr:=⟨_,rfl⟩;subst b3;obtain⟨j,hj,rfl,B,HZ⟩:=hrel;by_cases b2:j<19
  . (have a8:(j:Int)<19:=by omega);obtain⟨r,hr⟩:∃r,zf[j]? = some r:=⟨_,List.getElem?_eq_getElem (by show j<19;exact b2)⟩;have hI:=K0 j r hr;replace hr:=jA hr;have hq:=kq r.kind b.kind;have hp:=xN r.key qY;obtain⟨U,W1,e3,e4,AW,BW,zW,f0,f1,f2,f3,f4,f5,f6,f7,f8,f9⟩:=gb G 212 (.string ⟨#[]⟩) (.string ⟨#[]⟩) (.int .i64 0) (.int .i64 0) (.int .i64 0) (.string (stg r.kind)) (.string (stg r.key)) (.int .i64 r.form) (.int .i64 r.least) (.int .i64 r.most);have A1:=jA ((A0.o.kept B).kept BW);have a2:=jA AW;have B2:Hid (Below V.heap.size V W1):=B.trans (BW.mono B.size);have HH:=J.o r.key;(have m:Hid (wl b r=(decide (r.kind=b.kind) && !(decide (r.key=qY) && !decide (C=2)) && !xQ b r.key)):=by show _=_;rw[<- hC.o];rfl);have a1:Hid (wl b r=false->∀ (t:Nat) r,t<j+1->zf[t]? = some r->wl b r=false):=by
     intro y t g ht e;by_cases h1:t=j
     . rw[h1,hr.o] at e;injection e with e;rw[<- e];exact y
     . exact HZ.o t g (by omega) e
    obtain⟨g,hg⟩:=jx3 (G.heap.size);rw[hg] at a2 e4 f0 f1 f2 f3 f4 f5 f6 f7 f8 f9;obtain⟨K,hK⟩:=jx1 (stg r.kind);obtain⟨K2,a5⟩:∃K,Hid (stg r.key=K):=⟨_,rfl⟩;obtain⟨M0,a6⟩:∃M,Hid (((r.form:Nat):Int)=M):=⟨_,rfl⟩;obtain⟨M1,b0⟩:∃M,Hid (((r.least:Nat):Int)=M):=⟨_,rfl⟩;obtain⟨M2,b1⟩:∃M,Hid (((r.most:Nat):Int)=M):=⟨_,rfl⟩;obtain⟨H,hH⟩:=jx1 (xQ b r.key);rw[hK.o,a5.o,a6.o,b0.o,b1.o] at hI e4 a2;rw[hK.o] at hq f2 f3 f4 f5 f6 f7 f8 f9;rw[a4.o] at hq;rw[a5.o] at hp f4 f5 f6 f7 f8 f9 HH;rw[a6.o] at f6 f7 f8 f9;rw[b0.o] at f8 f9;rw[hH.o] at HH m;replace HH:=jA HH;obtain⟨x0,x1⟩:=a2.o.c2;obtain⟨y0,y1,y2,y3⟩:=A1.o.c4;replace hp:(K2.toList == [100,105,103,105,116,115])=decide (r.key=qY):=hp;clear B BW AW zW;by_cases hd:r.key=qY
    . rw[decide_eq_true hd] at hp m;have HJ:=jA (Z.o W1 B2.o);clear hd;go_wp2_with fail;refine HJ.o.mono ?_;rintro e w8 ⟨rfl,B8⟩;have A8:=jA (A1.o.kept B8);have AX:=jA (a2.o.kept B8);obtain⟨u0,u1⟩:=AX.o.c2;obtain⟨v0,v1,v2,v3⟩:=A8.o.c4;replace B8:Hid (Below V.heap.size V w8):=B2.o.trans (B8.mono B2.o.size);clear HJ e3 e4 f0 f1 f2 f3 f4 f5 f6 f7 f8 f9 x0 x1 y0 y1 y2 y3;by_cases hk:r.kind=b.kind;rw[decide_eq_true hk] at hq m;by_cases hc:C=2
      . rw[decide_eq_true hc] at qc m;(have qn:((C:Int) != 2)=false:=by unfold bne;rw[qc];rfl);have HJ:=jA (HH.o w8 B8.o);clear hk hc;go_wp2_with fail;refine HJ.o.mono ?_;rintro e w9 ⟨rfl,B9⟩;replace B9:Hid (Below V.heap.size V w9):=B8.o.trans (B9.mono B8.o.size);clear HJ;cases H with
        | true =>
         (have y:Hid (wl b r=false):=by show _=_;rw[m.o];simp);go_wp2_with fail;go_roundw;(case rel=>exact⟨j+1,by omega,by go_num,B9.o,a1.o y.o⟩);case measure=>simp[intOf];omega
        | false =>
         (have y:Hid (R=true):=by show _=_;rw[<- hR.o,QX];exact FP hr.o (by rw[m.o];simp));have BF:Hid (Below w.heap.size w w9):=HB.o.trans (B9.o.mono HB.o.size);go_wp2_with fail;go_ret;exact⟨by rw[y.o];rfl,by first|exact BF.o|(rw[<- a0];exact BF.o)⟩
      rw[decide_eq_false hc] at qc m;(have qn:((C:Int) != 2)=true:=by unfold bne;rw[qc];rfl);have y:Hid (wl b r=false):=by show _=_;rw[m.o];simp
      rotate_left
      rw[decide_eq_false hk] at hq m;(have y:Hid (wl b r=false):=by show _=_;rw[m.o];simp);by_cases hc:C=2;rw[decide_eq_true hc] at qc;have qn:((C:Int) != 2)=false:=by unfold bne;rw[qc];rfl
      rotate_left
      rw[decide_eq_false hc] at qc;have qn:((C:Int) != 2)=true:=by unfold bne;rw[qc];rfl
      rotate_left
      all_goals
        clear hk hc;go_wp2_with fail;go_roundw;(case rel=>exact⟨j+1,by omega,by go_num,B8.o,a1.o y.o⟩);case measure=>simp[intOf];omega
    . rw[decide_eq_false hd] at hp m;by_cases hk:r.kind=b.kind
      . rw[decide_eq_true hk] at hq m;have HJ:=jA (HH.o W1 B2.o);clear hk hd;go_wp2_with fail;refine HJ.o.mono ?_;rintro e w9 ⟨rfl,B9⟩;replace B9:Hid (Below V.heap.size V w9):=B2.o.trans (B9.mono B2.o.size);clear HJ;cases H with
        | true =>
         (have y:Hid (wl b r=false):=by show _=_;rw[m.o];simp);go_wp2_with fail;go_roundw;(case rel=>exact⟨j+1,by omega,by go_num,B9.o,a1.o y.o⟩);case measure=>simp[intOf];omega
        | false =>
         (have y:Hid (R=true):=by show _=_;rw[<- hR.o,QX];exact FP hr.o (by rw[m.o];simp));have BF:Hid (Below w.heap.size w w9):=HB.o.trans (B9.o.mono HB.o.size);go_wp2_with fail;go_ret;exact⟨by rw[y.o];rfl,by first|exact BF.o|(rw[<- a0];exact BF.o)⟩
      . rw[decide_eq_false hk] at hq m;(have y:Hid (wl b r=false):=by show _=_;rw[m.o];simp);clear hk hd;go_wp2_with fail;go_roundw;(case rel=>exact⟨j+1,by omega,by go_num,B2.o,a1.o y.o⟩);case measure=>simp[intOf];omega
  . (have a8:¬ (j:Int)<19:=by omega);(have y:Hid (R=false):=by show _=_;rw[<- hR.o,QX];exact PD λt r' hb=>HZ.o t r' (by have h1:=(List.getElem?_eq_some_iff.1 hb).1;have h2:t<19:=h1;omega) hb);have BF:Hid (Below w.heap.size w G):=HB.o.trans (B.mono HB.o.size);clear B;go_wp2_with fail;go_ret;exact⟨by rw[y.o];rfl,by first|exact BF.o|(rw[<- a0];exact BF.o)⟩
namespace Lx
def Ma(b:qK):Prop:=(b.kind=qF->qV b zO=[]\/zg (qV b zO)=true)/\(b.kind=zT->(qV b jo=[]\/zg (qV b jo)=true)/\(qV b jT=[]\/zg (qV b jT)=true))
end Lx
theorem ji{B g:Nat}{w:World}{v0 v1:Value}(h:Arr w g 37 [v0,v1])(a:World)(hb:Below B a w)(hg:B<=g)(u0 u1:Value):∃V,(w.setCell ⟨g,0,none⟩ u0).setCell ⟨g,1,none⟩ u1=V/\V.cell? ⟨g,0,none⟩=some u0/\V.cell? ⟨g,1,none⟩=some u1/\Below B a V /\
    w.cell? ⟨g,0,none⟩=some v0/\w.frozen? ⟨g,0,none⟩=false/\(w.setCell ⟨g,0,none⟩ u0).cell? ⟨g,1,none⟩=some v1/\(w.setCell ⟨g,0,none⟩ u0).frozen? ⟨g,1,none⟩=false:=by
 obtain⟨V,e,J,m,Z,y,G,H⟩:=zl h u0 u1;refine⟨V,e,m.cell 0,m.cell 1,?_,Z,y,G,H⟩;rw[J.o];exact jX hb hg u0 u1
theorem ZN(b:qK)(fo:Option Addr)(fn fc:Nat)(w:World)(h:FldS qU w fo fn fc b.flds)(hok:Ma b)(hT:Tabs w) :
    Calls Tryz.prog 114 #[.agg #[.string (stg b.kind),.string (stg b.name),.slice fo fn fc,.int .i64 b.line]] w λe w'=>e=.returned (.agg #[.int .i64 (((yr b).1:Nat):Int),.int .i64 (yr b).2])/\Below w.heap.size w w':=by
 obtain⟨V,e1,AV,BV,hz⟩:=qG w 55 [.string (stg b.kind),.string (stg b.name),.slice fo fn fc,.int .i64 b.line];obtain⟨U,e2,AU,BU,e0⟩:=qG V 37 [.int .i64 0,.int .i64 0];have HL:=jA ((h.below BV).below BU);have HT:=jA ((hT.below BV).below BU);have a7:=λw1 (G:Below U.heap.size U w1)=>wU b zG fo fn fc w1 (HL.o.below G)
 have J:=λw1 (G:Below U.heap.size U w1)=>MZ b qY fo fn fc w1 (HL.o.below G)
 have b6:=λw1 (G:Below U.heap.size U w1)=>vR b qY fo fn fc w1 (HL.o.below G)
 have a9:=λw1 (G:Below U.heap.size U w1)=>vR b zO fo fn fc w1 (HL.o.below G)
 have a4:=λhv w1 (G:Below U.heap.size U w1)=>kH b zO fo fn fc w1 (HL.o.below G) hv (HT.o.below G)
 have a6:=λhv w1 (G:Below U.heap.size U w1)=>kH b jo fo fn fc w1 (HL.o.below G) hv (HT.o.below G)
 have a5:=λhv w1 (G:Below U.heap.size U w1)=>kH b jT fo fn fc w1 (HL.o.below G) hv (HT.o.below G)
 obtain⟨bb,Z⟩:∃b,w.heap.size=b:=⟨_,rfl⟩;rw[Z] at AV hz;rw[hz] at AU;have A0:=jA (AV.kept BU);have A1:=jA AU;have HB:Hid (Below bb w U):=by show Below _ _ _;rw[<- Z];exact BV.trans (BU.mono BV.size)
 have d9:Hid (bb<=bb+1):=by show _<=_;omega
 have e4:Hid (bb<=U.heap.size):=by show _<=_;have:=HB.o.size;omega
 rw[<- Z] at HB;have hL:Hid (zx b qY=(qt b qY).line/\zx b zO=(qt b zO).line):=⟨gY _ _,gY _ _⟩;obtain⟨C,hC⟩:∃R,Hid (kL b zG=R):=⟨_,rfl⟩;obtain⟨H,hH⟩:∃R,Hid (xQ b qY=R):=⟨_,rfl⟩;obtain⟨NS,d6⟩:∃R,Hid (qR b zO=R):=⟨_,rfl⟩;obtain⟨NB,d1⟩:∃R,Hid (qR b jo=R):=⟨_,rfl⟩;obtain⟨NM,d4⟩:∃R,Hid (qR b jT=R):=⟨_,rfl⟩;rw[hC.o] at a7;rw[hH.o] at J;rw[d6.o] at a4;rw[d1.o] at a6;rw[d4.o] at a5;have qk:=xN b.kind qF;have qs:=xN b.kind zT;have b8:=jW C 2 2 rfl;have d5:=jW C 1 1 rfl;have m:yr b=if b.kind=qF then if H && !decide (C=2) then (5,(qt b qY).line) else if decide (C=1)&&decide (1<NS) then (4,(qt b zO).line) else (0,0)
     else if b.kind=zT then (if NM<NB then (4,b.line) else (0,0)) else (0,0):=by
  rw[<- hC.o,<- hH.o,<- d6.o,<- d1.o,<- d4.o,<- hL.o.1,<- hL.o.2];rfl
 obtain⟨TE,d0⟩:∃T,yr b=T:=⟨_,rfl⟩;rw[d0] at m |-;obtain⟨KD,b9⟩:∃K,Hid (stg b.kind=K):=⟨_,rfl⟩;obtain⟨KN,d3⟩:∃K,Hid (stg b.name=K):=⟨_,rfl⟩;obtain⟨LN,c7⟩:∃K,Hid (b.line=K):=⟨_,rfl⟩;rw[b9.o,d3.o,c7.o] at e1 A0 a7 J b6 a9 a4 a6 a5;rw[c7.o] at m;rw[b9.o] at qk qs;rw[b9.o,d3.o,c7.o];replace qk:(KD.toList == [99,111,110,116,101,115,116])=decide (b.kind=qF):=qk;replace qs:(KD.toList == [115,99,97,110])=decide (b.kind=zT):=qs;obtain⟨y0,y1,y2,y3⟩:=A0.o.c4;clear hT AV AU BV BU e0 h d0;replace a7:Hid (∀w1 (_:Below U.heap.size U w1),jC 119 #[.agg #[.string KD,.string KN,.slice fo fn fc,.int .i64 LN],.string ⟨#[109,101,116,104,111,100]⟩] w1 λe w'=>e=.returned (.int .i64 (C:Int))/\Below w1.heap.size w1 w'):=a7;replace J:Hid (∀w1 (_:Below U.heap.size U w1),jC 173 #[.agg #[.string KD,.string KN,.slice fo fn fc,.int .i64 LN],.string ⟨#[100,105,103,105,116,115]⟩] w1 λe w'=>e=.returned (.bool H)/\Below w1.heap.size w1 w'):=J;replace b6:Hid (∀w1 (_:Below U.heap.size U w1),jC 115 #[.agg #[.string KD,.string KN,.slice fo fn fc,.int .i64 LN],.string ⟨#[100,105,103,105,116,115]⟩] w1 λe w'=>∃vo vn vc,e=.returned (.agg #[.string (stg (qt b qY).key),.slice vo vn vc,.int .i64 (qt b qY).line])/\StrL qU w' vo vn vc (qt b qY).vals/\Below w1.heap.size w1 w'):=b6;replace a9:Hid (∀w1 (_:Below U.heap.size U w1),jC 115 #[.agg #[.string KD,.string KN,.slice fo fn fc,.int .i64 LN],.string ⟨#[115,101,97,116,115]⟩] w1 λe w'=>∃vo vn vc,e=.returned (.agg #[.string (stg (qt b zO).key),.slice vo vn vc,.int .i64 (qt b zO).line])/\StrL qU w' vo vn vc (qt b zO).vals/\Below w1.heap.size w1 w'):=a9;have HY:Hid (∀ (r l:Int) W,Below U.heap.size U W->W.cell? ⟨bb,0,none⟩=some (.string KD)/\W.cell? ⟨bb,1,none⟩=some (.string KN)/\W.cell? ⟨bb,2,none⟩=some (.slice fo fn fc)/\W.cell? ⟨bb,3,none⟩=some (.int .i64 LN)/\∃Y,(W.setCell ⟨bb+1,0,none⟩ (.int .i64 r)).setCell ⟨bb+1,1,none⟩ (.int .i64 l)=Y/\Y.cell? ⟨bb+1,0,none⟩=some (.int .i64 r)/\Y.cell? ⟨bb+1,1,none⟩=some (.int .i64 l)/\Hid (Below w.heap.size w Y) /\
     W.cell? ⟨bb+1,0,none⟩=some (.int .i64 0)/\W.frozen? ⟨bb+1,0,none⟩=false/\(W.setCell ⟨bb+1,0,none⟩ (.int .i64 r)).cell? ⟨bb+1,1,none⟩=some (.int .i64 0)/\(W.setCell ⟨bb+1,0,none⟩ (.int .i64 r)).frozen? ⟨bb+1,1,none⟩=false):=λr l W G=>by
  have h0:=A0.o.kept G;exact⟨h0.cell 0,h0.cell 1,h0.cell 2,h0.cell 3,ji (A1.o.kept G) w (HB.o.trans (G.mono HB.o.size)) (by rw[Z];exact d9.o) _ _⟩
 have y:Hid (Below U.heap.size U U):=Below.refl _ _;by_cases hk:b.kind=qF
 . rw[decide_eq_true hk] at qk;rw[if_pos hk] at m;have b5:=a4 (hok.1 hk);replace b5:Hid (∀w1 (_:Below U.heap.size U w1),jC 65 #[.agg #[.string KD,.string KN,.slice fo fn fc,.int .i64 LN],.string ⟨#[115,101,97,116,115]⟩] w1 λe w'=>e=.returned (.int .i64 (NS:Int))/\Below w1.heap.size w1 w'):=b5;clear a4 a6 a5 hok hk;obtain⟨LL,d2⟩:∃L,Hid ((qt b qY).line=L):=⟨_,rfl⟩;obtain⟨LS,c8⟩:∃L,Hid ((qt b zO).line=L):=⟨_,rfl⟩;rw[d2.o] at b6;rw[c8.o] at a9;rw[d2.o,c8.o] at m;cases H<;>by_cases hc:C=2<;>by_cases c6:C=1<;>by_cases b7:1<NS<;>first|omega|skip;all_goals
     first|rw[decide_eq_true hc] at b8 m|rw[decide_eq_false hc] at b8 m
     first|rw[decide_eq_true c6] at d5 m|rw[decide_eq_false c6] at d5 m
     first|rw[decide_eq_true b7] at m|rw[decide_eq_false b7] at m
     simp only[Bool.not_true,Bool.not_false,Bool.and_true,Bool.and_false,Bool.true_and,Bool.false_and,Bool.false_eq_true,if_true,if_false] at m;have d8:((C:Int) != 2) = !((C:Int) == 2):=rfl;rw[b8] at d8
     first|(have b2:decide ((NS:Int) > 1)=true:=decide_eq_true (by omega))|(have b2:decide ((NS:Int) > 1)=false:=decide_eq_false (by omega))
     replace m:=jA m;clear hc c6 b7
   all_goals as_aux_lemma =>
    have HE:=(jA (HY.o 5 LL):Hid _)
    first|(have h5:TE=(5,LL):=m.o;clear h5)|(clear HE;have HE:=jA (HY.o 4 LS);have h5:TE=(4,LS):=m.o;clear h5)|(clear HE;have HE:=jA (HY.o 0 0))
    clear y0 y1 y2 y3;obtain⟨a0,a1,a2,a3,Y,e9,r0,r1,BF,g0,g1,g2,g3⟩:=HE.o _ y.o;go_in;go_wp2_with (first
      | (go_at_call 173;(with_reducible refine(J.o _ y.o).mono ?_);rintro e w2 ⟨rfl,B3⟩;replace y:=jA (y.o.trans (B3.mono y.o.size));clear B3;obtain⟨a0,a1,a2,a3,Y,e9,r0,r1,BF,g0,g1,g2,g3⟩:=HE.o _ y.o)
      | (go_at_call 119;(with_reducible refine(a7.o _ y.o).mono ?_);rintro e w2 ⟨rfl,B3⟩;replace y:=jA (y.o.trans (B3.mono y.o.size));clear B3;obtain⟨a0,a1,a2,a3,Y,e9,r0,r1,BF,g0,g1,g2,g3⟩:=HE.o _ y.o)
      | (go_at_call 65;(with_reducible refine(b5.o _ y.o).mono ?_);rintro e w2 ⟨rfl,B3⟩;replace y:=jA (y.o.trans (B3.mono y.o.size));clear B3;obtain⟨a0,a1,a2,a3,Y,e9,r0,r1,BF,g0,g1,g2,g3⟩:=HE.o _ y.o)
      | (go_at_call 115;(first|((with_reducible refine(b6.o _ y.o).mono ?_);rintro e w2 ⟨vo,vn,vc,rfl,SL,B3⟩;have d7:=WK (.string (stg (qt b qY).key)) (.int .i64 LL) vo vn vc)|((with_reducible refine(a9.o _ y.o).mono ?_);rintro e w2 ⟨vo,vn,vc,rfl,SL,B3⟩;have d7:=WK (.string (stg (qt b zO).key)) (.int .i64 LS) vo vn vc));clear SL;replace y:=jA (y.o.trans (B3.mono y.o.size));clear B3;obtain⟨a0,a1,a2,a3,Y,e9,r0,r1,BF,g0,g1,g2,g3⟩:=HE.o _ y.o)
      | fail)
    refine bodyPost_ret (v:=.agg #[.int .i64 (((TE.1:Nat):Int)),.int .i64 TE.2]) (by rw[m.o];simp[results,Tryz.results114,go_sem,r0,r1]) rfl ?_;exact⟨rfl,by first|exact BF.o|(rw[<- Z];exact BF.o)⟩
 rw[decide_eq_false hk] at qk;rw[if_neg hk] at m;by_cases hs:b.kind=zT
 . rw[decide_eq_true hs] at qs;rw[if_pos hs] at m;have b0:=a6 (hok.2 hs).1;have a8:=a5 (hok.2 hs).2;replace b0:Hid (∀w1 (_:Below U.heap.size U w1),jC 65 #[.agg #[.string KD,.string KN,.slice fo fn fc,.int .i64 LN],.string ⟨#[98,108,97,110,107]⟩] w1 λe w'=>e=.returned (.int .i64 (NB:Int))/\Below w1.heap.size w1 w'):=b0;replace a8:Hid (∀w1 (_:Below U.heap.size U w1),jC 65 #[.agg #[.string KD,.string KN,.slice fo fn fc,.int .i64 LN],.string ⟨#[109,97,114,107,101,100]⟩] w1 λe w'=>e=.returned (.int .i64 (NM:Int))/\Below w1.heap.size w1 w'):=a8;clear a4 a6 a5 hok hk hs;obtain⟨UD,e3⟩:∃X,U.drew=X:=⟨_,rfl⟩;(replace y:Hid (Below U.heap.size U UD):=by show Below _ _ _;rw[<- e3];exact(Below.refl _ _).drew);by_cases b4:NM<NB;have b1:decide ((NM:Int)<(NB:Int))=true:=decide_eq_true (by omega);have b2:decide ((NB:Int) > (NM:Int))=true:=b1;have b3:decide (NM<NB)=true:=decide_eq_true b4;rw[if_pos b4] at m;have HE:=jA (HY.o 4 LN)
   rotate_left
   have b1:decide ((NM:Int)<(NB:Int))=false:=decide_eq_false (by omega);have b2:decide ((NB:Int) > (NM:Int))=false:=b1;have b3:decide (NM<NB)=false:=decide_eq_false b4;rw[if_neg b4] at m;have HE:=jA (HY.o 0 0)
   rotate_left
   all_goals
     replace m:=jA m;clear b4;obtain⟨a0,a1,a2,a3,Y,e9,r0,r1,BF,g0,g1,g2,g3⟩:=HE.o _ y.o;go_in;go_wp2_with fail;go_region_held3 (λw'=>w'.cell? ⟨bb,0,none⟩=some (.string KD)/\w'.cell? ⟨bb,1,none⟩=some (.string KN)/\w'.cell? ⟨bb,2,none⟩=some (.slice fo fn fc)/\w'.cell? ⟨bb,3,none⟩=some (.int .i64 LN)) (go_keep) (first
       | (go_at_call 65;(first|(with_reducible refine(b0.o _ y.o).mono ?_)|(with_reducible refine(a8.o _ y.o).mono ?_));rintro e v1 ⟨rfl,B3⟩;replace y:=jA (y.o.trans (B3.mono y.o.size));clear B3;obtain⟨a0,a1,a2,a3,Y,e9,r0,r1,BF,g0,g1,g2,g3⟩:=HE.o _ y.o))
     all_goals
       go_wp2_with fail;refine bodyPost_ret (v:=.agg #[.int .i64 (((TE.1:Nat):Int)),.int .i64 TE.2]) (by rw[m.o];simp[results,Tryz.results114,go_sem,r0,r1]) rfl ?_;exact⟨rfl,by first|exact BF.o|(rw[<- Z];exact BF.o)⟩
 rw[decide_eq_false hs] at qs;rw[if_neg hs] at m;replace m:=jA m;clear a4 a6 a5 hok hk hs;obtain⟨a0,a1,a2,a3,Y,e9,r0,r1,BF,g0,g1,g2,g3⟩:=HY.o 0 0 _ y.o;go_in;go_wp2_with fail;refine bodyPost_ret (v:=.agg #[.int .i64 (((TE.1:Nat):Int)),.int .i64 TE.2]) (by rw[m.o];simp[results,Tryz.results114,go_sem,r0,r1]) rfl ?_;exact⟨rfl,by first|exact BF.o|(rw[<- Z];exact BF.o)⟩
end Go.Proofs.YtkefajjcpcoajaaGreatDoor
namespace Go.Proofs.YtkefajjcpcoajaaGreatDoor.Lx
variable {k:List UInt8}{j:Nat}
theorem K6{fs:List zC}{f:zC}(h:fs[j]? = some f):jZ k (fs.take j) (fs.drop j)=if jp k (fs.take j) f≠0 then (jp k (fs.take j) f,f.line) else jZ k (fs.take (j+1)) (fs.drop (j+1)):=by
 rw[uz h,jZ,qg h]
theorem FQ{fs:List zC}(h:fs.length<=j):jZ k (fs.take j) (fs.drop j)=(0,0):=by
 rw[List.drop_eq_nil_of_le h];rfl
theorem Xh{fs:List zC}(h:(jZ k [] fs).1=0):∀ (i:Nat) (f:zC),fs[i]? = some f->jp k (fs.take i) f=0:=by
 have key:∀j,j<=fs.length->(jZ k (fs.take j) (fs.drop j)).1=0/\∀ (i:Nat) (f:zC),i<j->fs[i]? = some f->jp k (fs.take i) f=0:=by
  intro j;induction j with
  | zero=>intro _;exact⟨h,λi f hi=>absurd hi (by omega)⟩
  | succ j ih =>
   intro V;obtain⟨y,J⟩:=ih (by omega);have H:fs[j]? = some fs[j]:=List.getElem?_eq_getElem (by omega);rw[K6 H] at y;by_cases G:jp k (fs.take j) fs[j]≠0
   . rw[if_pos G] at y;exact absurd y G
   . rw[if_neg G] at y;refine⟨y,λi f hi m=>?_⟩;by_cases e:i=j
     . subst e;rw[H] at m;injection m with m;rw[<- m];simpa using G
     . exact J i f (by omega) m
 intro i f m;exact(key fs.length (Nat.le_refl _)).2 i f (List.getElem?_eq_some_iff.1 m).1 m
theorem kI{b:qK}{r:jj}(h:(jZ b.kind [] b.flds).1=0)(hr:zi b.kind k=some r)(hf:r.form=0):qV b k=[]\/zg (qV b k)=true:=by
 rw[uy];rcases gF b k with ⟨_,h2⟩|⟨j,h1,h2⟩
 . rw[h2];exact Or.inl rfl
 . have m:=Xh h j _ h2;have y:(qt b k).key=k:=by
    unfold qt j7;cases G:b.flds.find? (λf=>decide (f.key=k)) with
    | none =>
     unfold qt j7 at h2;unfold yY at h1;cases hi:uw k b.flds with
     | none=>rw[hi] at h1;simp at h1
     | some i =>
      obtain⟨f,_,H⟩:=yu hi;rw[G] at H;cases H
    | some f=>simpa using List.find?_some G
   unfold jp at m;rw[y,hr] at m;simp only at m;split at m
   . omega
   . rw[if_neg (by omega)] at m;split at m
     . omega
     . unfold xf at m;rw[if_pos hf] at m;unfold Ux at m;cases J:zg (((qt b k).vals[0]?).getD []) with
       | true=>exact Or.inr rfl
       | false=>rw[J] at m;simp at m
theorem jF0{b:qK}(h:(jZ b.kind [] b.flds).1=0):Ma b :=
 ⟨λhk=>kI (r:=⟨qF,zO,0,1,5⟩) h (by rw[hk];rfl) rfl,λhk=>⟨kI (r:=⟨zT,jo,0,1,100⟩) h (by rw[hk];rfl) rfl,kI (r:=⟨zT,jT,0,1,100⟩) h (by rw[hk];rfl) rfl⟩⟩
theorem K7{bs:List qK}{b:qK}(h:bs[j]? = some b):zk (bs.take j) (bs.drop j)=if (zP (bs.take j) b).1≠0 then zP (bs.take j) b else zk (bs.take (j+1)) (bs.drop (j+1)):=by
 rw[uz h,zk,qg h]
theorem FT{bs:List qK}(h:bs.length<=j):zk (bs.take j) (bs.drop j)=(0,0):=by
 rw[List.drop_eq_nil_of_le h];rfl
theorem WO{bs:List qK}(h:(zk [] bs).1=0):∀ (i:Nat) (b:qK),bs[i]? = some b->(zP (bs.take i) b).1=0:=by
 have key:∀j,j<=bs.length->(zk (bs.take j) (bs.drop j)).1=0/\∀ (i:Nat) (b:qK),i<j->bs[i]? = some b->(zP (bs.take i) b).1=0:=by
  intro j;induction j with
  | zero=>intro _;exact⟨h,λi f hi=>absurd hi (by omega)⟩
  | succ j ih =>
   intro V;obtain⟨y,J⟩:=ih (by omega);have H:bs[j]? = some bs[j]:=List.getElem?_eq_getElem (by omega);rw[K7 H] at y;by_cases G:(zP (bs.take j) bs[j]).1≠0
   . rw[if_pos G] at y;exact absurd y G
   . rw[if_neg G] at y;refine⟨y,λi f hi m=>?_⟩;by_cases e:i=j
     . subst e;rw[H] at m;injection m with m;rw[<- m];simpa using G
     . exact J i f (by omega) m
 intro i f m;exact(key bs.length (Nat.le_refl _)).2 i f (List.getElem?_eq_some_iff.1 m).1 m
end Go.Proofs.YtkefajjcpcoajaaGreatDoor.Lx
namespace Go.Proofs.YtkefajjcpcoajaaGreatDoor
open Go.RowKit Lx
namespace Lx
def Vp(b:qK):Prop:=∀f∈b.flds,yv b.kind f
end Lx
theorem gh(earlier:List qK)(b:qK)(ao fo:Option Addr)(n c fn fc:Nat)(w:World)(hE:BlkS qU w ao n c earlier)(hn:n<=2000000)(h:FldS qU w fo fn fc b.flds)(hsh:Vp b)(hT:Tabs w) :
    Calls Tryz.prog 60 #[.slice ao n c,.agg #[.string (stg b.kind),.string (stg b.name),.slice fo fn fc,.int .i64 b.line]] w λe w'=>e=.returned (.agg #[.int .i64 (((zP earlier b).1:Nat):Int),.int .i64 (zP earlier b).2])/\Below w.heap.size w w':=by
 obtain⟨V,e1,AV,BV,hz⟩:=qG w 55 [.string (stg b.kind),.string (stg b.name),.slice fo fn fc,.int .i64 b.line];obtain⟨U,e2,AU,BU,c7⟩:=qG V 37 [.int .i64 0,.int .i64 0];have HL:=jA ((h.below BV).below BU);have HT:=jA ((hT.below BV).below BU);have b3:=jA h.len;obtain⟨d2,d0⟩:=h.caps;have HH:=Vo earlier b ao fo n c fn fc U ((hE.below BV).below BU) hn HT.o;have a3:=λw1 (hb:Below U.heap.size U w1)=>Xg b fo fn fc w1 (HL.o.below hb) (HT.o.below hb)
 have a5:=λa4 w1 (hb:Below U.heap.size U w1)=>ZN b fo fn fc w1 (HL.o.below hb) a4 (HT.o.below hb)
 obtain⟨bb,a1⟩:∃b,w.heap.size=b:=⟨_,rfl⟩;rw[a1] at AV hz;rw[hz] at AU;have A0:=jA (AV.kept BU);have A1:=jA AU;have HB:Hid (Below w.heap.size w U):=BV.trans (BU.mono BV.size);have a6:Hid (w.heap.size<=bb+1):=by show _<=_;omega
 obtain⟨TE,y⟩:∃T,zP earlier b=T:=⟨_,rfl⟩;have m:TE=if xm earlier b≠0 then (xm earlier b,b.line) else if (jZ b.kind [] b.flds).1≠0 then jZ b.kind [] b.flds else if jv b then (6,b.line) else yr b:=y.symm
 rw[y];obtain⟨HE,b4⟩:∃T,xm earlier b=T:=⟨_,rfl⟩;rw[b4] at m HH;obtain⟨KD,b0⟩:∃K,Hid (stg b.kind=K):=⟨_,rfl⟩;obtain⟨KN,b5⟩:∃K,Hid (stg b.name=K):=⟨_,rfl⟩;obtain⟨LN,b1⟩:∃K,Hid (b.line=K):=⟨_,rfl⟩;rw[b0.o,b5.o,b1.o] at e1 A0 HH a3 a5;rw[b1.o] at m;rw[b0.o,b5.o,b1.o];obtain⟨y0,y1,y2,y3⟩:=A0.o.c4;have qh:=jW HE 0 0 rfl;replace HH:=jA HH;replace a3:=jA a3;replace a5:=jA a5;replace hsh:=jA hsh;clear hT AV AU BV BU c7 h y hE b4;by_cases h0:HE=0;case neg =>
  rw[decide_eq_false h0] at qh;have qn:((HE:Int) != 0)=true:=by unfold bne;rw[qh];rfl
  rw[if_pos h0] at m;replace m:=jA m;clear h0;go_in;go_wp2_with fail;refine HH.o.mono ?_;rintro e w1 ⟨rfl,B1⟩;have y4:w1.cell? ⟨bb,3,none⟩=some (.int .i64 LN):=(A0.o.kept B1).cell 3;obtain⟨Y,e9,r0,r1,G,g0,g1,g2,g3⟩:=ji (A1.o.kept B1) w (HB.o.trans (B1.mono HB.o.size)) a6.o (.int .i64 (HE:Int)) (.int .i64 LN);replace G:=jA G;clear HH B1;go_wp2_with fail;refine bodyPost_ret (v:=.agg #[.int .i64 (HE:Int),.int .i64 LN]) (by simp[results,Tryz.results60,go_sem,r0,r1]) rfl ?_;exact⟨by rw[m.o],by first|exact G.o|(rw[<- a1];exact G.o)⟩
 subst h0;rw[if_neg (by simp)] at m;replace HH:Hid (jC 111 #[.slice ao n c,.agg #[.string KD,.string KN,.slice fo fn fc,.int .i64 LN]] U λe w'=>e=.returned (.int .i64 0)/\Below U.heap.size U w'):=HH.o;obtain⟨X,hX⟩:=jx3 (jZ b.kind [] b.flds);have b8:Hid (X=jZ b.kind (b.flds.take 0) (b.flds.drop 0)):=hX.symm;rw[hX] at m;replace m:=jA m;replace hX:=jA hX;clear qh;go_in;go_wp2_with fail;refine HH.o.mono ?_;rintro e w1 ⟨rfl,B1⟩;have y4:w1.cell? ⟨bb,2,none⟩=some (.slice fo fn fc):=(A0.o.kept B1).cell 2;replace B1:=jA B1;clear HH;go_wp2_with fail;clear e1 e2 y0 y1 y2 y3 y4;go_loopw [6,7,8,21] (λ_ _ _ i wr=>∃j:Nat,j<=fn/\i=.int .i64 (j:Int)/\Below U.heap.size U wr/\Hid (X=jZ b.kind (b.flds.take j) (b.flds.drop j))) (λ_ _ _ i _=>fn-(intOf i).toNat)
 case atStart=>exact⟨0,Nat.zero_le _,rfl,B1.o,b8.o⟩
 case round =>
  obtain⟨w2,d1⟩:∃x,x=wr:=⟨_,rfl⟩;subst d1;clear B1 b8;obtain⟨j,hj,rfl,B,HX⟩:=hrel;by_cases c6:j<fn
  . (have b9:(j:Int)<(fn:Int):=by omega);(have d3:(j:Int)<=(fc:Int):=by omega);(have d4:(0:Int)<=(j:Int):=by omega);obtain⟨f,a,vo,vn,vc,hf,i1,c0,c1,c2,SL⟩:=(HL.o.below B).get j c6;have hs:=HX.o;rw[K6 hf] at hs;obtain⟨V1,W1,e3,e4,AW,BW,zW,f0,f1,f2,f3,f4,f5⟩:=ze w2 63 (.string ⟨#[]⟩) (.slice none 0 0) (.int .i64 0) (.string (stg f.key)) (.slice vo vn vc) (.int .i64 f.line);obtain⟨p,hp⟩:=jx3 (w2.heap.size);rw[hp] at AW e4 f0 f1 f2 f3 f4 f5;have a0:Below U.heap.size U W1:=B.trans (BW.mono B.size);have a2:=Xe b.kind (b.flds.take j) f fo vo j fc vn vc W1.drew ((HL.o.below a0.drew).take (by omega)) (StrL.below SL BW.drew) (hsh.o f (List.mem_of_getElem? hf)) (HT.o.below a0.drew);obtain⟨FE,b2⟩:∃F,jp b.kind (b.flds.take j) f=F:=⟨_,rfl⟩;rw[b2] at hs a2;obtain⟨KK,b7⟩:∃K,Hid (stg f.key=K):=⟨_,rfl⟩;obtain⟨FL,b6⟩:∃K,Hid (f.line=K):=⟨_,rfl⟩;rw[b7.o] at c0 e4 AW f2 f3 f4 f5;rw[b6.o] at c2 e4 AW hs;rw[b0.o,b7.o,b6.o] at a2;replace a2:=jA a2;have c8:=jA AW;have A2:=jA (A0.o.kept a0);have A3:=jA (A1.o.kept a0);have x0:W1.cell? ⟨bb,0,none⟩=some (.string KD):=A2.o.cell 0;have x2:W1.cell? ⟨bb,2,none⟩=some (.slice fo fn fc):=A2.o.cell 2;obtain⟨z0,z1,z2⟩:=c8.o.c3;have BD:Hid (Below U.heap.size U W1.drew):=a0.drew;clear B AW BW zW a0 hf SL b2;go_wp2_with fail;clear e3 e4 f0 f1 f2 f3 f4 f5 c0 c1 c2 i1;(go_region_held3 (λw'=>w'.cell? ⟨bb,0,none⟩=some (.string KD)/\w'.cell? ⟨bb,2,none⟩=some (.slice fo fn fc)/\w'.cell? ⟨p,0,none⟩=some (.string KK)/\w'.cell? ⟨p,1,none⟩=some (.slice vo vn vc)/\w'.cell? ⟨p,2,none⟩=some (.int .i64 FL)) (go_keep) ((go_at_call 112;(with_reducible refine a2.o.mono ?_);rintro e w3 ⟨rfl,H⟩;have k0:=qA (w:=W1.drew) x0 H;have k1:=qA (w:=W1.drew) x2 H;have k2:=qA (w:=W1.drew) z0 H;have k3:=qA (w:=W1.drew) z1 H;have k4:=qA (w:=W1.drew) z2 H;have H:=jA (BD.o.trans (H.mono BD.o.size)))));all_goals
      have qf:=jW FE 0 0 rfl;by_cases h0:FE=0
      . subst h0;rw[if_neg (by simp)] at hs;replace hs:=jA hs;clear qf;go_wp2_with fail;go_roundw;(case rel=>exact⟨j+1,by omega,by go_num,H.o,hs.o⟩);case measure=>simp[intOf];omega
      . rw[decide_eq_false h0] at qf;(have qn:((FE:Int) != 0)=true:=by unfold bne;rw[qf];rfl);rw[if_pos h0] at hs;(have y:Hid (TE=(FE,FL)):=by show _=_;rw[m.o,hs,if_pos h0]);obtain⟨Y,e9,r0,r1,G,g0,g1,g2,g3⟩:=ji (A1.o.kept H.o) w (HB.o.trans (H.o.mono HB.o.size)) a6.o (.int .i64 (FE:Int)) (.int .i64 FL);replace G:=jA G;clear h0 hs;go_wp2_with fail;refine bodyPost_ret (v:=.agg #[.int .i64 (FE:Int),.int .i64 FL]) (by simp[results,Tryz.results60,go_sem,r0,r1]) rfl ?_;exact⟨by rw[y.o],by first|exact G.o|(rw[<- a1];exact G.o)⟩
  . (have b9:¬ (j:Int)<(fn:Int):=by omega);(have hs:X=(0,0):=by rw[HX.o];exact FQ (by rw[b3.o];omega));have J:=m.o;rw[hs] at J;(replace J:TE=if jv b then (6,LN) else yr b:=J);have a4:=jF0 (b:=b) (by rw[hX.o,hs]);have HJ:=a3.o w2 B;have HG:=a5.o a4;obtain⟨Z,hZ⟩:=jx3 (jv b);rw[hZ] at J HJ;replace HJ:=jA HJ;replace HG:=jA HG;have A2:=jA (A0.o.kept B);obtain⟨x0,x1,x2,x3⟩:=A2.o.c4;replace B:=jA B;clear hs a4 hZ HX;cases Z with
    | true =>
     have y:Hid (TE=(6,LN)):=J;clear J;go_wp2_with fail;refine HJ.o.mono ?_;rintro e w3 ⟨rfl,H⟩;have B4:Below U.heap.size U w3:=B.o.trans (H.mono B.o.size);have k3:w3.cell? ⟨bb,3,none⟩=some (.int .i64 LN):=(A2.o.kept H).cell 3;obtain⟨Y,e9,r0,r1,G,g0,g1,g2,g3⟩:=ji (A1.o.kept B4) w (HB.o.trans (B4.mono HB.o.size)) a6.o (.int .i64 6) (.int .i64 LN);replace G:=jA G;clear HJ H B4;go_wp2_with fail;refine bodyPost_ret (v:=.agg #[.int .i64 6,.int .i64 LN]) (by simp[results,Tryz.results60,go_sem,r0,r1]) rfl ?_;exact⟨by rw[y.o];rfl,by first|exact G.o|(rw[<- a1];exact G.o)⟩
    | false =>
     have y:TE=yr b:=J;clear J;go_wp2_with fail;refine HJ.o.mono ?_;rintro e w3 ⟨rfl,H⟩;have B4:Below U.heap.size U w3:=B.o.trans (H.mono B.o.size);have HK:=HG.o w3 B4;rw[<- y] at HK;obtain⟨T1,a9⟩:∃T,((TE.1:Nat):Int)=T:=⟨_,rfl⟩;obtain⟨T2,a8⟩:∃T,TE.2=T:=⟨_,rfl⟩;rw[a9,a8] at HK;replace HK:=jA HK;have A4:=jA (A2.o.kept H);obtain⟨k0,k1,k2,k3⟩:=A4.o.c4;have a7:Hid (((TE.1:Nat):Int)=T1/\TE.2=T2):=⟨a9,a8⟩;replace B4:=jA B4;clear HJ HG y a9 a8 H;go_wp2_with fail;refine HK.o.mono ?_;rintro e w5 ⟨rfl,B5⟩;have B6:Below U.heap.size U w5:=B4.o.trans (B5.mono B4.o.size);obtain⟨Y,e9,r0,r1,G,g0,g1,g2,g3⟩:=ji (A1.o.kept B6) w (HB.o.trans (B6.mono HB.o.size)) a6.o (.int .i64 T1) (.int .i64 T2);replace G:=jA G;clear HK B5 B6;go_wp2_with fail;refine bodyPost_ret (v:=.agg #[.int .i64 T1,.int .i64 T2]) (by simp[results,Tryz.results60,go_sem,r0,r1]) rfl ?_;exact⟨by rw[a7.o.1,a7.o.2],by first|exact G.o|(rw[<- a1];exact G.o)⟩
