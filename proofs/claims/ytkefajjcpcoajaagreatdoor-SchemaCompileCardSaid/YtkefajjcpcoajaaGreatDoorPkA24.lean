/- -/
import Derived.Test.YtkefajjcpcoajaaGreatDoorPkA0
import Derived.Test.YtkefajjcpcoajaaGreatDoorPkA4
import Derived.Test.YtkefajjcpcoajaaGreatDoorPkA8
import Derived.Test.YtkefajjcpcoajaaGreatDoorPkA19
import Derived.Test.YtkefajjcpcoajaaGreatDoorPkA22
import Derived.Test.YtkefajjcpcoajaaGreatDoorPkA23
set_option linter.all false
set_option maxRecDepth 100000
set_option maxHeartbeats 25600000
namespace Go.Proofs.YtkefajjcpcoajaaGreatDoor
open Go.RowKit Lx
variable {B:Nat}{w:World}
namespace Lx
theorem NQ{bs:List qK}{j:Nat}{r:ZG}(h:zr[j]? = some r)(he:(qH r.kind bs).isEmpty=true):kg bs=true:=by
 unfold kg;rw[List.any_eq_true];exact⟨r,List.mem_of_getElem? h,he⟩
theorem NR{bs:List qK}(h:∀ (t:Nat) r,zr[t]? = some r->(qH r.kind bs).isEmpty=false):kg bs=false:=by
 unfold kg;rw[List.any_eq_false];intro x m;obtain⟨i,hi,rfl⟩:=List.mem_iff_getElem.1 m;rw[h i _ (List.getElem?_eq_getElem hi)];simp
structure yM (s:ke):Prop where
 blks:s.blks.length<=2000000
 short:∀b∈s.blks,Vp b
 prec:(zF s.blks).length<=4000000
 used:((qH qI s.blks).flatMap λb=>(qt b qB).vals).length<=4000000
end Lx
theorem Ge{v V:World}(h:Below v.heap.size v V):Below v.heap.size v V:=h
theorem ZV{U W V X:World}{g:Nat}{u0 u1:Value}(h:Below U.heap.size U W)(k:Below W.heap.size W V)(hg:U.heap.size<=g)(hX:Hid (X=put2 V g u0 u1)):Below U.heap.size U X:=by
 rw[hX.o];exact jX (h.trans (k.mono h.size)) hg u0 u1
theorem WP(s:ke)(ao:Option Addr)(n c:Nat)(w:World)(h:BlkS qU w ao n c s.blks)(hsm:yM s)(hT:Tabs w) :
    Calls Tryz.prog 27 #[.agg #[.string (stg s.title),.slice ao n c]] w λe w'=>e=.returned (.agg #[.int .i64 (((jI s).1:Nat):Int),.int .i64 (jI s).2])/\Below w.heap.size w w':=by
 obtain⟨V,e1,AV,BV,hz⟩:=qG w 24 [.string (stg s.title),.slice ao n c];obtain⟨U,e2,AU,BU,f8⟩:=qG V 37 [.int .i64 0,.int .i64 0];have HL:=jA ((h.below BV).below BU);have HT:=jA ((hT.below BV).below BU);have d4:=jA h.len;have b2:Hid (n<=2000000):=by show _<=_;rw[<- h.len];exact hsm.blks
 obtain⟨h7,h4⟩:=h.caps;have HX:=Zj s.title 60 U (by omega);have b1:=λw1 (hb:Below U.heap.size U w1)=>Jl s.blks ao n c w1 (HL.o.below hb) b2.o hsm.prec hsm.used
 obtain⟨bb,a8⟩:∃b,w.heap.size=b:=⟨_,rfl⟩;rw[a8] at AV hz;rw[hz] at AU;have A0:=jA (AV.kept BU);have A1:=jA AU;have HB:Hid (Below w.heap.size w U):=BV.trans (BU.mono BV.size);have a9:Hid (w.heap.size<=bb+1):=by show _<=_;omega
 obtain⟨TE,Z⟩:∃T,jI s=T:=⟨_,rfl⟩;have y:TE=if !jw s.title 60 then (8,0) else if (zk [] s.blks).1≠0 then zk [] s.blks else if kg s.blks then (6,0) else qz (zF s.blks) (jD s.blks) [] (qH qI s.blks):=Z.symm
 rw[Z];obtain⟨TX,d9⟩:∃T,jw s.title 60=T:=⟨_,rfl⟩;rw[d9] at y HX;obtain⟨KT,d6⟩:∃K,Hid (stg s.title=K):=⟨_,rfl⟩;rw[d6.o] at e1 A0 HX;rw[d6.o];obtain⟨ST,b5⟩:∃T,qz (zF s.blks) (jD s.blks) [] (qH qI s.blks)=T:=⟨_,rfl⟩;rw[b5] at y b1;replace b5:=jA b5;have y0:U.cell? ⟨bb,0,none⟩=some (.string KT):=A0.o.cell 0;replace HX:Hid (jC 59 #[.string KT,.int .i64 60] U λe w'=>e=.returned (.bool TX)/\Below U.heap.size U w'):=HX;replace b1:=jA b1;replace hsm:=jA hsm;clear hT AV AU BV BU f8 h Z d9;cases TX with
 | false =>
  replace y:Hid (TE=(8,0)):=y;go_in;go_wp2_with fail;refine HX.o.mono ?_;rintro e w1 ⟨rfl,B1⟩;obtain⟨Y,e9,r0,r1,BF,g0,g1,g2,g3⟩:=ji (A1.o.kept B1) w (HB.o.trans (B1.mono HB.o.size)) a9.o (.int .i64 8) (.int .i64 0);replace BF:=jA BF;clear HX B1;go_wp2_with fail;refine bodyPost_ret (v:=.agg #[.int .i64 8,.int .i64 0]) (by simp[results,Tryz.results27,go_sem,r0,r1]) rfl ?_;exact⟨by rw[y.o];rfl,by first|exact BF.o|(rw[<- a8];exact BF.o)⟩
 | true =>
  replace y:TE=if (zk [] s.blks).1≠0 then zk [] s.blks else if kg s.blks then (6,0) else ST:=y
  obtain⟨X,hX⟩:=jx3 (zk [] s.blks);have d8:Hid (X=zk (s.blks.take 0) (s.blks.drop 0)):=hX.symm;rw[hX] at y;replace y:=jA y;clear hX;go_in;go_wp2_with fail;refine HX.o.mono ?_;rintro e w1 ⟨rfl,B1⟩;have y4:w1.cell? ⟨bb,1,none⟩=some (.slice ao n c):=(A0.o.kept B1).cell 1;replace B1:=jA B1;clear HX;go_wp2_with fail;clear e1 e2 y0 y4;go_loopw [3,4,5,16] (λ_ _ _ i wr=>∃j:Nat,j<=n/\i=.int .i64 (j:Int)/\Below U.heap.size U wr/\Hid (X=zk (s.blks.take j) (s.blks.drop j))) (λ_ _ _ i _=>n-(intOf i).toNat)
  case atStart=>exact⟨0,Nat.zero_le _,rfl,B1.o,d8.o⟩
  case round =>
   obtain⟨w2,h6⟩:∃x,x=wr:=⟨_,rfl⟩;subst h6;clear B1 d8;obtain⟨j,hj,rfl,B,HX⟩:=hrel;by_cases e8:j<n
   . (have e0:(j:Int)<(n:Int):=by omega);(have h8:(j:Int)<=(c:Int):=by omega);(have h9:(0:Int)<=(j:Int):=by omega);obtain⟨b,a,fo,fn,fc,hb,i1,c0,c1,c2,c3,FL⟩:=(HL.o.below B).get j e8;have hs:=HX.o;rw[K7 hb] at hs;obtain⟨V1,J,e3,e4,AW,BW,zW,f0,f1,f2,f3,f4,f5,f6,f7⟩:=xl w2 55 (.string ⟨#[]⟩) (.string ⟨#[]⟩) (.slice none 0 0) (.int .i64 0) (.string (stg b.kind)) (.string (stg b.name)) (.slice fo fn fc) (.int .i64 b.line);obtain⟨p,hp⟩:=jx3 (w2.heap.size);rw[hp] at AW e4 f0 f1 f2 f3 f4 f5 f6 f7;have G:Below U.heap.size U J:=B.trans (BW.mono B.size);obtain⟨V5,m5,c8,a5,g6⟩:=qG J 37 [.int .i64 0,.int .i64 0];obtain⟨q,hq⟩:=jx3 (J.heap.size);rw[hq] at c8;have b0:Below U.heap.size U V5:=G.trans (a5.mono G.size);have b4:=hsm.o.short b (List.mem_of_getElem? hb);have a2:=gh (s.blks.take j) b ao fo j c fn fc J.drew ((HL.o.below G.drew).take (by omega)) (by have:=b2.o;omega) (FL.below BW.drew) b4 (HT.o.below G.drew);have a1:=gh (s.blks.take j) b ao fo j c fn fc V5.drew ((HL.o.below b0.drew).take (by omega)) (by have:=b2.o;omega) ((FL.below BW).below a5.drew) b4 (HT.o.below b0.drew);obtain⟨FE,d2⟩:∃F,zP (s.blks.take j) b=F:=⟨_,rfl⟩;rw[d2] at hs a2 a1;obtain⟨F1,b8⟩:∃F,((FE.1:Nat):Int)=F:=⟨_,rfl⟩;obtain⟨F2,d1⟩:∃F,FE.2=F:=⟨_,rfl⟩;rw[b8,d1] at a2 a1;obtain⟨KK,c6⟩:∃K,Hid (stg b.kind=K):=⟨_,rfl⟩;obtain⟨KN,g4⟩:∃K,Hid (stg b.name=K):=⟨_,rfl⟩;obtain⟨LN,h5⟩:∃K,Hid (b.line=K):=⟨_,rfl⟩;rw[c6.o] at c0 e4 AW f2 f3 f4 f5 f6 f7 a2 a1;rw[g4.o] at c1 e4 AW f4 f5 f6 f7 a2 a1;rw[h5.o] at c3 e4 AW a2 a1;replace a2:=jA a2;replace a1:=jA a1;have d5:=jA AW;have A2:=jA (A0.o.kept G);have A3:=jA (A1.o.kept G);have A5:=jA c8;have x1:J.cell? ⟨bb,1,none⟩=some (.slice ao n c):=A2.o.cell 1;obtain⟨z0,z1,z2,z3⟩:=d5.o.c4;have v1:V5.drew.cell? ⟨bb,1,none⟩=some (.slice ao n c):=(A2.o.kept a5).cell 1;obtain⟨v2,v3,v4,v5⟩:=(d5.o.kept a5).c4;have BD:Hid (Below U.heap.size U J.drew):=G.drew;(have e6:Hid (J.heap.size<=q):=by show _<=_;rw[hq];exact Nat.le_refl _);have e7:Hid (Below J.heap.size J V5.drew):=a5.drew;(have g7:Hid (U.heap.size<=q):=by show _<=_;rw[<- hq];exact G.size);have f9:Hid (Below U.heap.size U V5.drew):=b0.drew;have b7:Hid (((FE.1:Nat):Int)=F1/\FE.2=F2):=⟨b8,d1⟩;replace hs:=jA hs;clear B AW BW zW G hb FL d2 c8 a5 g6 b0 b4 b8 d1;go_wp2_with fail;clear e3 e4 f0 f1 f2 f3 f4 f5 f6 f7 c0 c1 c2 c3 i1;go_region_held3 (λw'=>w'.cell? ⟨bb,1,none⟩=some (.slice ao n c)/\w'.cell? ⟨p,0,none⟩=some (.string KK)/\w'.cell? ⟨p,1,none⟩=some (.string KN)/\w'.cell? ⟨p,2,none⟩=some (.slice fo fn fc)/\w'.cell? ⟨p,3,none⟩=some (.int .i64 LN)) (go_keep) (first
       | (go_at_call 60;(with_reducible refine a2.o.mono ?_);rintro e v9 ⟨rfl,B9⟩;have k0:=qA (w:=J.drew) x1 B9;have k1:=qA (w:=J.drew) z0 B9;have k2:=qA (w:=J.drew) z1 B9;have k3:=qA (w:=J.drew) z2 B9;have k4:=qA (w:=J.drew) z3 B9;obtain⟨V6,m6,e5,a0,g8⟩:=qG v9 37 [.int .i64 0,.int .i64 0];have l0:=qA k0 a0;have l1:=qA k1 a0;have l2:=qA k2 a0;have l3:=qA k3 a0;have l4:=qA k4 a0;obtain⟨X9,m7,a4,AX,q0,q1,q2,q3⟩:=zl e5 (.int .i64 F1) (.int .i64 F2);have H:Below v9.heap.size v9 X9:=ZV (Below.refl _ _) a0 (Nat.le_refl _) a4;have o0:=qA k0 H;have o1:=qA k1 H;have o2:=qA k2 H;have o3:=qA k3 H;have o4:=qA k4 H;have BX:=jA (ZV ((BD.o.trans (B9.mono BD.o.size))) (Ge a0) (Nat.le_trans BD.o.size B9.size) a4);obtain⟨g5,b9⟩:∃g,v9.heap.size=g:=⟨_,rfl⟩;rw[b9] at AX m7 q0 q1 q2 q3;clear e5 a0 g8 a4 H)
       | (go_at_call 60;(with_reducible refine a1.o.mono ?_);rintro e v9 ⟨rfl,B9⟩;have k0:=qA (w:=V5.drew) v1 B9;have k1:=qA (w:=V5.drew) v2 B9;have k2:=qA (w:=V5.drew) v3 B9;have k3:=qA (w:=V5.drew) v4 B9;have k4:=qA (w:=V5.drew) v5 B9;obtain⟨X9,m7,a4,AX,q0,q1,q2,q3⟩:=zl (Arr.kept (w:=V5.drew) A5.o B9) (.int .i64 F1) (.int .i64 F2);have H:Below J.heap.size J X9:=ZV e7.o B9 e6.o a4;have o0:=qA x1 H;have o1:=qA z0 H;have o2:=qA z1 H;have o3:=qA z2 H;have o4:=qA z3 H;have BX:=jA (ZV f9.o B9 g7.o a4);obtain⟨g5,b9⟩:∃g,q=g:=⟨_,rfl⟩;rw[b9] at AX m7 q0 q1 q2 q3;clear a4 H))
     all_goals
       obtain⟨u0,u1⟩:=AX.c2;(have qf:(F1 == 0)=decide (FE.1=0):=by rw[<- b7.o.1];exact jW FE.1 0 0 rfl);by_cases h0:FE.1=0
       . rw[decide_eq_true h0] at qf;(have qn:(F1 != 0)=false:=by unfold bne;rw[qf];rfl);(have a3:Hid (X=zk (s.blks.take (j+1)) (s.blks.drop (j+1))):=by show _=_;rw[hs.o,if_neg (λe=>e h0)]);clear h0 AX;go_wp2_with fail;go_roundw;(case rel=>exact⟨j+1,by omega,by go_num,BX.o,a3.o⟩);case measure=>simp[intOf];omega
       . rw[decide_eq_false h0] at qf;(have qn:(F1 != 0)=true:=by unfold bne;rw[qf];rfl);have Z:Hid (TE=FE):=by
          show _=_;(have hX:X=FE:=by rw[hs.o,if_pos h0]);rw[y.o,hX,if_pos h0]
         obtain⟨Y,e9,r0,r1,BF,g0,g1,g2,g3⟩:=ji (A1.o.kept BX.o) w (HB.o.trans (BX.o.mono HB.o.size)) a9.o (.int .i64 F1) (.int .i64 F2);replace BF:=jA BF;clear h0 AX;go_wp2_with fail;refine bodyPost_ret (v:=.agg #[.int .i64 F1,.int .i64 F2]) (by simp[results,Tryz.results27,go_sem,r0,r1]) rfl ?_;exact⟨by rw[Z.o,b7.o.1,b7.o.2],by first|exact BF.o|(rw[<- a8];exact BF.o)⟩
   . (have e0:¬ (j:Int)<(n:Int):=by omega);(have hs:X=(0,0):=by rw[HX.o];exact FT (by rw[d4.o];omega));have a3:=y.o;rw[hs] at a3;replace a3:Hid (TE=if kg s.blks then (6,0) else ST):=a3;obtain⟨tt,fr,hg⟩:=(HT.o.below B).blk;replace hg:=jA hg;have B1:=jA B;clear B hs HX y;go_wp2_with (with_reducible refine wpList_load_row rfl 113 _ rfl 0 rfl tt QP.toArray fr _ hg.o Tryz.underlying113 rfl (by kernel_rfl) ?_);(go_loopw [7,33] (λ_ i wr=>∃j:Nat,j<=7/\i=.int .i64 (j:Int)/\Below U.heap.size U wr/\Hid (∀ (t:Nat) r,t<j->zr[t]? = some r->(qH r.kind s.blks).isEmpty=false)) (λ_ i _=>7-(intOf i).toNat));(case atStart=>exact⟨0,Nat.zero_le _,rfl,B1.o,λt g ht=>absurd ht (by omega)⟩);case round =>
      obtain⟨w3,g9⟩:∃x,x=wr:=⟨_,rfl⟩;subst g9;clear B1;obtain⟨i,hi,rfl,B,HZ⟩:=hrel;by_cases d7:i<7
      . (have b6:(i:Int)<7:=by omega);obtain⟨r,hr⟩:∃r,zr[i]? = some r:=⟨_,List.getElem?_eq_getElem (by show i<7;exact d7)⟩;have hI:=KZ i r hr;replace hr:=jA hr;obtain⟨U2,J,e3,e4,AW,BW,zW,f0,f1,f2,f3,f4,f5⟩:=ze w3 112 (.string ⟨#[]⟩) (.int .i64 0) (.bool false) (.string (stg r.kind)) (.int .i64 r.most) (.bool r.named);obtain⟨p,hp⟩:=jx3 (w3.heap.size);rw[hp] at AW e4 f0 f1 f2 f3 f4 f5;have G:Below U.heap.size U J:=B.trans (BW.mono B.size);have HK:=ux s.blks r.kind ao n c J (HL.o.below G) b2.o;obtain⟨RB,a6⟩:∃R,qH r.kind s.blks=R:=⟨_,rfl⟩;rw[a6] at HK;obtain⟨KK,c6⟩:∃K,Hid (stg r.kind=K):=⟨_,rfl⟩;rw[c6.o] at hI e4 AW f2 f3 f4 f5 HK;replace HK:=jA HK;have y0:J.cell? ⟨p,0,none⟩=some (.string KK):=AW.cell 0;have x1:J.cell? ⟨bb,1,none⟩=some (.slice ao n c):=(A0.o.kept G).cell 1;have BD:Hid (Below U.heap.size U J):=G;replace a6:=jA a6;clear B AW BW zW G;go_wp2_with fail;clear e3 e4 f0 f1 f2 f3 f4 f5 hI;refine HK.o.mono ?_;rintro e w5 ⟨ro,m,d,rfl,BL,B5⟩;have d3:Hid (RB.length=m):=BL.len;have B6:Hid (Below U.heap.size U w5):=BD.o.trans (B5.mono BD.o.size);have qm:=jW m 0 0 rfl;clear HK BL B5;by_cases hm:m=0
        . rw[decide_eq_true hm] at qm;have Z:Hid (TE=(6,0)):=by
           show _=_;rw[a3.o,NQ hr.o (by rw[a6.o];exact List.isEmpty_iff.2 (List.eq_nil_of_length_eq_zero (by rw[d3.o];exact hm)))];rfl
          obtain⟨Y,e9,r0,r1,BF,g0,g1,g2,g3⟩:=ji (A1.o.kept B6.o) w (HB.o.trans (B6.o.mono HB.o.size)) a9.o (.int .i64 6) (.int .i64 0);replace BF:=jA BF;replace hm:=jA hm;go_wp2_with fail;refine bodyPost_ret (v:=.agg #[.int .i64 6,.int .i64 0]) (by simp[results,Tryz.results27,go_sem,r0,r1]) rfl ?_;exact⟨by rw[Z.o];rfl,by first|exact BF.o|(rw[<- a8];exact BF.o)⟩
        . rw[decide_eq_false hm] at qm;have h3:Hid (∀ (t:Nat) r,t<i+1->zr[t]? = some r->(qH r.kind s.blks).isEmpty=false):=by
           intro t r2 ht a7;by_cases e:t=i
           . subst e;rw[hr.o] at a7;injection a7 with a7;subst a7;rw[a6.o];cases hE:RB with
             | nil=>exact absurd (by rw[<- d3.o,hE];rfl) hm
             | cons _ _=>rfl
           . exact HZ.o t r2 (by omega) a7
          clear hm HZ;go_wp2_with fail;go_roundw;(case rel=>exact⟨i+1,by omega,by go_num,B6.o,h3.o⟩);case measure=>simp[intOf];omega
      . (have b6:¬ (i:Int)<7:=by omega);have Z:TE=ST:=by
         rw[a3.o,NR λt r hr=>HZ.o t r (by
          have h1:=(List.getElem?_eq_some_iff.1 hr).1;have h2:zr.length=7:=rfl;omega) hr]
         rfl
        have HK:=b1.o w3 B;rw[<- Z] at HK;obtain⟨T1,d0⟩:∃T,((TE.1:Nat):Int)=T:=⟨_,rfl⟩;obtain⟨T2,c7⟩:∃T,TE.2=T:=⟨_,rfl⟩;rw[d0,c7] at HK;replace HK:=jA HK;have x1:w3.cell? ⟨bb,1,none⟩=some (.slice ao n c):=(A0.o.kept B).cell 1;have b3:Hid (((TE.1:Nat):Int)=T1/\TE.2=T2):=⟨d0,c7⟩;replace B:=jA B;clear Z d0 c7 HZ a3;go_wp2_with fail;refine HK.o.mono ?_;rintro e w5 ⟨rfl,B5⟩;have B6:Below U.heap.size U w5:=B.o.trans (B5.mono B.o.size);obtain⟨Y,e9,r0,r1,BF,g0,g1,g2,g3⟩:=ji (A1.o.kept B6) w (HB.o.trans (B6.mono HB.o.size)) a9.o (.int .i64 T1) (.int .i64 T2);replace BF:=jA BF;clear HK B5 B6;go_wp2_with fail;refine bodyPost_ret (v:=.agg #[.int .i64 T1,.int .i64 T2]) (by simp[results,Tryz.results27,go_sem,r0,r1]) rfl ?_;exact⟨by rw[b3.o.1,b3.o.2],by first|exact BF.o|(rw[<- a8];exact BF.o)⟩
namespace Lx
theorem Xi:∀ {fs:List Fld} {f:Fld},f∈fs->wF f<=wFs fs
  | g :: r,f,h=>by
   rw[wFs];rcases List.mem_cons.1 h with rfl|h
   . omega
   . have:=Xi h;omega
theorem WQ:∀ {bs:List Blc} {b:Blc},b∈bs->wB b<=wBs bs
  | g :: r,f,h=>by
   rw[wBs];rcases List.mem_cons.1 h with rfl|h
   . omega
   . have:=WQ h;omega
theorem WR:∀bs:List Blc,bs.length<=wBs bs
  | []=>Nat.le_refl _
  | b :: r=>by
   have:=WR r;rw[wBs,wB,List.length_cons];omega
theorem FX(b:Blc)(k:List UInt8):(qN (Jy b) k).length<=wFs b.flds:=by
 unfold qN j7;cases h:(Jy b).flds.find? λf=>decide (f.key=k) with
 | none=>exact Nat.zero_le _
 | some f =>
  have m:=List.mem_of_find?_eq_some h;obtain⟨g,y,rfl⟩:=List.mem_map.1 m;have:=Xi y;rw[wF] at this;show g.vals.length<=_;omega
theorem UK(q:qK->Bool)(k:qK->List (List UInt8))(hk:∀b:Blc,(k (Jy b)).length<=wFs b.flds):∀bs:List Blc,(((bs.map Jy).filter q).flatMap k).length<=wBs bs
  | []=>Nat.le_refl _
  | b :: r=>by
   have h1:=UK q k hk r;have h2:=hk b;rw[List.map_cons,List.filter_cons,wBs,wB];split
   . rw[List.flatMap_cons,List.length_append];omega
   . omega
def LnB(M:Int)(b:qK):Prop:=b.line<=M/\∀f∈b.flds,f.line<=M
section
variable {M : Int} (h0 : 0 <= M)
include h0
end
theorem Gf{N:Nat}{s:Src}(h1:∀b∈s.blks,GdB B b)(h2:wBs s.blks<=N)(hB:B<=1000000)(hN:N<=1000000) :
    yM (gR s)/\(∀b∈(gR s).blks,∀f∈b.flds,f.vals.length<=4000000)/\(∀b∈(gR s).blks,Lc b)/\∀b∈(gR s).blks,LnB 1000000 b:=by
 refine⟨⟨?_,?_,?_,?_⟩,?_,?_,?_⟩
 . have:=WR s.blks;show(s.blks.map Jy).length<=_;rw[List.length_map];omega
 . intro b J f y r _ v Z _;obtain⟨c,H,rfl⟩:=List.mem_map.1 J;obtain⟨g,m,rfl⟩:=List.mem_map.1 y;have:=((h1 c H).flds g m).vals v Z;omega
 . have:=UK (λb=>decide (b.kind=qB)) (λb=>qN b zy) (λb=>FX b _) s.blks;show(((s.blks.map Jy).filter _).flatMap _).length<=_;omega
 . have:=UK (λb=>decide (b.kind=qI)) (λb=>(qt b qB).vals) (λb=>by rw[<- kJ];exact FX b _) s.blks;show(((s.blks.map Jy).filter _).flatMap _).length<=_;omega
 . intro b J f y;obtain⟨c,H,rfl⟩:=List.mem_map.1 J;obtain⟨g,m,rfl⟩:=List.mem_map.1 y;have e1:=WQ H;have V:=Xi m;rw[wB] at e1;rw[wF] at V;show g.vals.length<=_;omega
 . intro b J;obtain⟨c,H,rfl⟩:=List.mem_map.1 J;have m:=h1 c H;refine⟨by have:=m.ln;show(1:Int)<=((c.line:Nat):Int);omega,λf y=>?_⟩;obtain⟨g,G,rfl⟩:=List.mem_map.1 y;have:=(m.flds g G).ln;show(1:Int)<=((g.line:Nat):Int);omega
 . intro b J;obtain⟨c,H,rfl⟩:=List.mem_map.1 J;have m:=h1 c H;refine⟨by have:=m.top;show((c.line:Nat):Int)<=1000000;omega,λf y=>?_⟩;obtain⟨g,G,rfl⟩:=List.mem_map.1 y;have:=(m.flds g G).top;show((g.line:Nat):Int)<=1000000;omega
theorem Gg:∀ (l:List UInt8) (ln:Nat) (ts:List Tok) (m:Nat),jz l ln=.ok ts m->m<=ln+l.length:=by
 intro l;induction hk:l.length using Nat.strongRecOn generalizing l with
 | _ k ih =>
  intro ln ts m h;cases l with
  | nil=>rw[ur] at h;injection h with _ h;omega
  | cons c r =>
   (have y:r.length<k:=by rw[<- hk];simp);(have V:k=r.length+1:=by rw[<- hk];simp);rw[kP] at h;split at h
   . have H:=vA Qk r;have:=ih _ (Nat.lt_of_le_of_lt H y) _ rfl _ _ _ h;omega
   . split at h
     . have:=ih _ y _ rfl _ _ _ h;(have:yh c ln<=ln+1:=by unfold yh;split<;>omega);omega
     . cases J:xE (c :: r) with
       | none=>rw[J] at h;cases h
       | some x =>
        rw[J] at h;simp only at h;(have H:(r.drop (x.2.2-1)).length<=r.length:=by rw[List.length_drop];omega);cases G:jz (r.drop (x.2.2-1)) ln with
        | err e=>rw[G] at h;cases h
        | ok us e =>
         rw[G] at h;injection h with _ h;have:=ih _ (Nat.lt_of_le_of_lt H y) _ rfl _ _ _ G;omega
theorem WS:∀ {ts:List Tok} {t:Tok},t∈ts->2*t.text.length+20<=wgt ts
  | g :: r,f,h=>by
   rw[wgt];rcases List.mem_cons.1 h with rfl|h
   . omega
   . have:=WS h;omega
theorem WT:∀ts:List Tok,20*ts.length<=wgt ts
  | []=>Nat.le_refl _
  | t :: r=>by
   have:=WT r;rw[wgt,List.length_cons];omega
theorem Vr{l:List UInt8}{s:Src}(h:Qf l=.ok s)(hl:l.length<=20000) :
    yM (gR s)/\(∀b∈(gR s).blks,∀f∈b.flds,f.vals.length<=4000000)/\(∀b∈(gR s).blks,Lc b)/\∀b∈(gR s).blks,LnB 1000000 b:=by
 unfold Qf at h;cases e:jz l 1 with
 | err m=>rw[e] at h;cases h
 | ok ts ln =>
  rw[e] at h;cases G:xZ (ts++[⟨5,[],ln⟩]) with
  | bad m =>
   replace h:(match xZ (ts++[⟨5,[],ln⟩]) with
    | .ok s _=>Ans.ok s
    | .bad m=>Ans.err m)=.ok s:=h
   rw[G] at h;cases h
  | ok s2 r =>
   replace h:(match xZ (ts++[⟨5,[],ln⟩]) with
    | .ok s _=>Ans.ok s
    | .bad m=>Ans.err m)=.ok s:=h
   rw[G] at h;injection h with h;subst h;have V:=(uB _ l 1 ts ln (Nat.le_refl _) e).2;have H:=yU _ l 1 ts ln (Nat.le_refl _) e;have Z:=Gg l 1 ts ln e;have J:GdT 1000000 (ts++[⟨5,[],ln⟩]):=by
    intro t y;rcases List.mem_append.1 y with y|y
    . have:=WS y;exact⟨(H.2 t y).1,by omega,by have:=(H.2 t y).2.1;omega⟩
    . (have:t=⟨5,[],ln⟩:=by simpa using y);subst this;exact⟨H.1,by show 2*0+1<=_;omega,by show ln<=_;omega⟩
   obtain⟨a,b⟩:=Uz G J;refine Gf a b (Nat.le_refl _) ?_;have:=WT ts;rw[List.length_append];show ts.length+1<=_;omega
end Lx
theorem UL:(Tryz.prog.info? 3).map (λi=>(i.zero,i.size,i.bytes))=some (some (.int .i64 0),1,8):=by kernel_rfl
theorem K8{S1 S2:World->Nat->Prop}(L vs:List (List UInt8))(lo ao:Option Addr)(ln lc n c:Nat)(w:World)(hl:StrL S1 w lo ln lc L)(h:StrL S2 w ao n c vs)(hn:n<=4000000) :
    Calls Tryz.prog 120 #[.slice lo ln lc,.slice ao n c] w λe w'=>∃ro m d,e=.returned (.slice ro m d)/\IntL .i64 (qS w.heap.size [3]) w' ro m d (vs.map (jV L))/\Below w.heap.size w w':=by
 have a5:=Row.cap h;have a2:=Row.room h;have G:=jA (StrL.len h);have H:=jA (Row.low (Row.mono h kE));have a1:=jA (Row.low (Row.mono hl kE));clear h hl;go_in;go_wp2_with fail;go_loopw [5,7,10] (λv _ i wr=>∃ (j:Nat) (ro:Option Addr) (d:Nat),j<=n/\i=.int .i64 (j:Int)/\v=.slice ro j d/\wr.ownsRow w.heap.size 3 1 (.slice ro j d) j ((vs.take j).map λv=>.int .i64 (jV L v))/\Below w.heap.size w wr) (λ_ _ i _=>n-(intOf i).toNat)
 case atStart=>exact⟨0,none,0,Nat.zero_le _,rfl,rfl,World.ownsRow_nil _ _ _ _,Below.refl _ _⟩
 case round =>
  obtain⟨w1,a3⟩:∃x,x=wr:=⟨_,rfl⟩;subst a3;obtain⟨j,ro,d,hj,rfl,rfl,O,B⟩:=hrel;by_cases a4:j<n
  . (have J:(j:Int)<(n:Int):=by omega);obtain⟨v,a,hv,i1,c1⟩:=StrL.get (Row.keep H.o (qp _) (zN B)) j a4;have y:=J9 L v lo ln lc w1 (Row.keep a1.o (qp _) (zN B));obtain⟨R,V⟩:=jx1 (jV L v);rw[V.o] at y;have HS:Hid ((vs.take (j+1)).map (λv=>Value.int .i64 (jV L v))=(vs.take j).map (λv=>Value.int .i64 (jV L v))++[.int .i64 R]):=by
     show _=_;rw[qg hv,List.map_append,<- V.o];rfl
    obtain⟨K,hK⟩:=jx1 (stg v);rw[hK.o] at c1 y;replace y:=jA y;have hz:w.heap.size<=w1.heap.size:=B.size;clear hv;go_wp2_with fail;refine y.o.mono ?_;rintro e w2 ⟨rfl,rfl⟩;clear y;go_wp2_with (at_builtin;refine xM (vs:=[.int .i64 R]) Tryz.underlying58 UL rfl (by decide) (by decide) O hz (by omega) rfl (by intro u hu;simp at hu;subst hu;rfl) rfl rfl ?_);intro a0 d3 w3 Z G3 B3;have B4:Hid (Below w.heap.size w w3):=B.trans B3;rw[<- HS.o] at Z;have O4:=jA Z;clear Z G3 B3 c1 i1 hz O B;go_wp2_with fail;go_roundw;(case rel=>exact⟨j+1,a0,d3,by omega,by go_num,rfl,O4.o,B4.o⟩);case measure=>simp[intOf];omega
  . (have J:¬ (j:Int)<(n:Int):=by omega);have V:Hid (vs.take j=vs):=List.take_of_length_le (by have:=G.o;omega);rw[V.o] at O;have O2:Hid (IntL .i64 (qS w.heap.size [3]) w1 ro j d (vs.map (jV L))):=by
     show Row _ _ _ _ _ _ _;have:=Row.own O (by decide);rw[List.map_map];exact this
    replace B:=jA B;clear O;go_wp2_with fail;go_ret;exact⟨ro,j,d,rfl,O2.o,B.o⟩
theorem Zt{S:World->Nat->Prop}(vs:List (List UInt8))(ao:Option Addr)(n c:Nat)(w:World)(h:StrL S w ao n c vs)(hn:n<=8000000) :
    Calls Tryz.prog 92 #[.slice ao n c] w λe w'=>∃ro m d,e=.returned (.slice ro m d)/\StrL (qS w.heap.size [9]) w' ro m d vs/\Below w.heap.size w w':=by
 cases ao with
 | none =>
  have hx:vs=[]:=by
   have h1:=Row.nil0 h rfl;have h2:=Row.cap h;have h3:=StrL.len h;exact List.eq_nil_of_length_eq_zero (by omega)
  subst hx;exact(Tryz.slices_Clone_string_nil n c w).mono λe w' ⟨h1,h2⟩=>⟨none,0,0,h1,Row.nil _ _ _,by rw[h2];exact Below.refl _ _⟩
 | some a =>
  have a0:=λ(w:World) (a:Option Addr) (n c n' c':Nat)=>Lib.run_eql_slice_nil (P:=Tryz.prog) w 26 _ a n c n' c' Tryz.underlying26
  have Z:(w.alloc (.cells #[] 9)).ownsRow w.heap.size 9 1 (.slice (some ⟨w.heap.size,0,none⟩) 0 0) 0 []:=World.ownsRow_made w #[] 0 (Nat.le_refl _) (Nat.zero_le _) rfl;obtain⟨V,e1,AV,G,hz⟩:=qG w 9 [];rw[show w.alloc (.cells #[] 9)=V from e1] at Z;have H:=Row.keep (Row.low (Row.mono h kE)) (qp _) (zN G);have HB:Hid (Below w.heap.size w V):=G;have y:w.heap.size<=V.heap.size:=G.size;clear h AV G hz;go_in;go_wp2_with (at_builtin;refine ye Z H y (by omega) rfl rfl ?_);intro ro d w2 J B2;rw[Nat.zero_add] at J;have O3:Hid (StrL (qS w.heap.size [9]) w2 ro n d vs):=Row.own J (by decide);have B3:Hid (Below w.heap.size w w2):=HB.o.trans B2;clear J B2 Z H y;go_wp2_with fail;go_ret;exact⟨ro,n,d,rfl,O3.o,B3.o⟩
theorem qT{Es:List TypeId}{s n c:Nat}{ao:Option Addr}{us:List Value}{w':World}(h:Row (qS B Es) s w ao n c us)(hb:Below w.heap.size w w'):Row (qS B Es) s w' ao n c us:=h.keep (qE _ _) (qD _ hb)
theorem qw{B':Nat}{Es:List TypeId}{s n c:Nat}{ao:Option Addr}{us:List Value}(h:Row (qS B Es) s w ao n c us)(hB:B'<=B):Row (qS B' Es) s w ao n c us:=h.mono λ_ ⟨h1,h2⟩=>⟨Nat.le_trans hB h1,h2⟩
theorem wW{Z:World}{g b i:Nat}{u0 u1 u2 v:Value}(h:w.cell? ⟨b,i,none⟩=some v)(hb:b≠g)(hZ:Hid (Z=put3 w g u0 u1 u2)):Z.cell? ⟨b,i,none⟩=some v:=by
 rw[hZ.o];unfold put3;have k:∀j,(⟨g,j,none⟩:Addr)≠⟨b,i,none⟩:=λj e=>hb (congrArg Addr.block e).symm
 rw[World.cell?_setCell_other _ _ _ _ (by first|exact k 2|exact(k 2).symm),World.cell?_setCell_other _ _ _ _ (by first|exact k 1|exact(k 1).symm),World.cell?_setCell_other _ _ _ _ (by first|exact k 0|exact(k 0).symm)];exact h
theorem Xj(P C:List (List UInt8))(b:qK)(po qo fo:Option Addr)(pn pc qn qc fn fc:Nat)(w:World)(hP:StrL qU w po pn pc P)(hC:StrL qU w qo qn qc C)(h:FldS qU w fo fn fc b.flds)
    (h1:(qt b qB).vals.length<=4000000) (h2:(qt b qO).vals.length<=4000000) :
    Calls Tryz.prog 67 #[.agg #[.string (stg b.kind),.string (stg b.name),.slice fo fn fc,.int .i64 b.line],.slice po pn pc,.slice qo qn qc] w λe w'=>∃xo xn xc yo yn yc,e=.returned (.agg #[.string (stg b.name),.slice xo xn xc,.slice yo yn yc]) /\
      IntL .i64 (qS w.heap.size [3]) w' xo xn xc (vM P C b).precs/\IntL .i64 (qS w.heap.size [3]) w' yo yn yc (vM P C b).conts/\Below w.heap.size w w':=by
 obtain⟨V,e1,AV,BV,hz⟩:=qG w 55 [.string (stg b.kind),.string (stg b.name),.slice fo fn fc,.int .i64 b.line];obtain⟨U,e2,AU,BU,d5⟩:=qG V 60 [.string ⟨#[]⟩,.slice none 0 0,.slice none 0 0];have hm:(vM P C b).precs=(qt b qB).vals.map (jV P)/\(vM P C b).conts=(qt b qO).vals.map (jV C):=by
  unfold vM;rw[kJ,kJ];exact⟨rfl,rfl⟩
 rw[hm.1,hm.2];have HL:=jA ((h.below BV).below BU);have d4:=jA (StrL.below (StrL.below hP BV) BU);have d6:=jA (StrL.below (StrL.below hC BV) BU);have a4:=λw1 (hb:Below U.heap.size U w1)=>vR b qB fo fn fc w1 (HL.o.below hb)
 have J:=λw1 (hb:Below U.heap.size U w1)=>vR b qO fo fn fc w1 (HL.o.below hb)
 have b1:=λm y G w1 (hb:Below U.heap.size U w1) (hv:StrL qU w1 m y G (qt b qB).vals)=>K8 P _ po m pn pc y G w1 (StrL.below d4.o hb) hv (by rw[<- StrL.len hv];exact h1)
 have a6:=λm y G w1 (hb:Below U.heap.size U w1) (hv:StrL qU w1 m y G (qt b qO).vals)=>K8 C _ qo m qn qc y G w1 (StrL.below d6.o hb) hv (by rw[<- StrL.len hv];exact h2)
 obtain⟨F1,b7⟩:∃F,qt b qB=F:=⟨_,rfl⟩;obtain⟨F2,c8⟩:∃F,qt b qO=F:=⟨_,rfl⟩;rw[b7] at a4 b1 |-;rw[c8] at J a6 |-;obtain⟨bb,a5⟩:∃b,w.heap.size=b:=⟨_,rfl⟩;rw[a5] at AV hz;rw[hz] at AU;have A0:=jA (AV.kept BU);have A1:=jA AU;have HB:Hid (Below w.heap.size w U):=BV.trans (BU.mono BV.size);have b3:Hid (w.heap.size<=bb+1):=by show _<=_;omega
 have b0:Hid (bb≠bb+1):=by show _≠_;omega
 have b5:Hid (w.heap.size<=U.heap.size):=HB.o.size;obtain⟨KD,a7⟩:∃K,Hid (stg b.kind=K):=⟨_,rfl⟩;obtain⟨KN,a8⟩:∃K,Hid (stg b.name=K):=⟨_,rfl⟩;obtain⟨LN,a9⟩:∃K,Hid (b.line=K):=⟨_,rfl⟩;obtain⟨b6,b4⟩:∃K,Hid (stg F1.key=K):=⟨_,rfl⟩;obtain⟨c6,b8⟩:∃K,Hid (stg F2.key=K):=⟨_,rfl⟩;rw[a7.o,a8.o,a9.o] at e1 A0;rw[a7.o,a8.o,a9.o,b4.o] at a4;rw[a7.o,a8.o,a9.o,b8.o] at J;rw[a7.o,a8.o,a9.o];obtain⟨y0,y1,y2,y3⟩:=A0.o.c4;replace a4:Hid (∀w1 (_:Below U.heap.size U w1),jC 115 #[.agg #[.string KD,.string KN,.slice fo fn fc,.int .i64 LN],.string ⟨#[112,114,101,99,105,110,99,116,115]⟩] w1 λe w'=>∃m y G,e=.returned (.agg #[.string b6,.slice m y G,.int .i64 F1.line])/\StrL qU w' m y G F1.vals/\Below w1.heap.size w1 w'):=a4;replace J:Hid (∀w1 (_:Below U.heap.size U w1),jC 115 #[.agg #[.string KD,.string KN,.slice fo fn fc,.int .i64 LN],.string ⟨#[99,111,110,116,101,115,116,115]⟩] w1 λe w'=>∃m y G,e=.returned (.agg #[.string c6,.slice m y G,.int .i64 F2.line])/\StrL qU w' m y G F2.vals/\Below w1.heap.size w1 w'):=J;replace b1:=jA b1;replace a6:=jA a6;have b9:=λm y G=>gZ (.string b6) (.int .i64 F1.line) m y G
 have c7:=λm y G=>gZ (.string c6) (.int .i64 F2.line) m y G
 have HD:Hid (Below U.heap.size U U.drew):=(Below.refl _ _).drew;have b2:Below U.heap.size U U.drew:=HD.o;clear h hP hC AV AU BV BU d5 hm h1 h2 b7 c8;go_in;go_wp2_with fail;go_region_held3 (λw'=>w'.cell? ⟨bb,0,none⟩=some (.string KD)/\w'.cell? ⟨bb,1,none⟩=some (.string KN)/\w'.cell? ⟨bb,2,none⟩=some (.slice fo fn fc)/\w'.cell? ⟨bb,3,none⟩=some (.int .i64 LN)) (go_keep) (first
   | (go_at_call 115;(with_reducible refine(a4.o _ b2).mono ?_);rintro e v1 ⟨m,y,G,rfl,SV,B1⟩;have a0:=qA (w:=U.drew) y0 B1;have a1:=qA (w:=U.drew) y1 B1;have a2:=qA (w:=U.drew) y2 B1;have a3:=qA (w:=U.drew) y3 B1;have C1:Below U.heap.size U v1:=b2.trans (B1.mono b2.size);have d7:=b9 m y G)
   | (go_at_call 120;(with_reducible refine(b1.o m y G v1 C1 SV).mono ?_);rintro e v2 ⟨xo,xn,xc,rfl,X,B2⟩;have c0:=qA a0 B2;have c1:=qA a1 B2;have c2:=qA a2 B2;have c3:=qA a3 B2;have C2:Below U.heap.size U v2:=C1.trans (B2.mono C1.size))
   | (go_at_call 115;(with_reducible refine(J.o v2 C2).mono ?_);rintro e v3 ⟨uo,un,uc,rfl,SU,B3⟩;have d0:=qA c0 B3;have d1:=qA c1 B3;have d2:=qA c2 B3;have d3:=qA c3 B3;have C3:Below U.heap.size U v3:=C2.trans (B3.mono C2.size);have X3:=qT X B3;have d8:=c7 uo un uc)
   | (go_at_call 120;(with_reducible refine(a6.o uo un uc v3 C3 SU).mono ?_);rintro e v4 ⟨yo,yn,yc,rfl,Y,B4⟩;have g0:=qA d0 B4;have g1:=qA d1 B4;have g2:=qA d2 B4;have g3:=qA d3 B4;have C4:Below U.heap.size U v4:=C3.trans (B4.mono C3.size);have X4:=qT X3 B4;obtain⟨Z,m5,H,AZ,q0,q1,q2,q3,q4,q5⟩:=jY (A1.o.kept C4) (.string KN) (.slice xo xn xc) (.slice yo yn yc);have z0:=wW g0 b0.o H;have z1:=wW g1 b0.o H;have z2:=wW g2 b0.o H;have z3:=wW g3 b0.o H))
 all_goals
   obtain⟨r0,r1,r2⟩:=AZ.c3;have BZ:Hid (Below w.heap.size w Z):=by
    show Below _ _ _;rw[H.o];exact(((HB.o.trans (C4.mono HB.o.size)).setCell (p:=⟨_,0,none⟩) b3.o _).setCell (p:=⟨_,1,none⟩) b3.o _).setCell (p:=⟨_,2,none⟩) b3.o _
   (have KP:Keeps (qS w.heap.size [3]) v4 Z:=by rw[H.o];exact JY (A1.o.kept C4) (by decide) _ _ _);have XZ:Hid (IntL .i64 (qS w.heap.size [3]) Z xo xn xc (F1.vals.map (jV P))):=(qw X4 (Nat.le_trans b5.o (C1.size))).keep (qE _ _) KP;have YZ:Hid (IntL .i64 (qS w.heap.size [3]) Z yo yn yc (F2.vals.map (jV C))):=(qw Y (Nat.le_trans b5.o C3.size)).keep (qE _ _) KP;clear X4 Y KP AZ q0 q1 q2 q3 q4 q5;go_wp2_with fail;refine bodyPost_ret (v:=.agg #[.string KN,.slice xo xn xc,.slice yo yn yc]) (by simp[results,Tryz.results67,go_sem,r0,r1,r2]) rfl ?_;exact⟨xo,xn,xc,yo,yn,yc,rfl,by first|exact XZ.o|(rw[<- a5];exact XZ.o),by first|exact YZ.o|(rw[<- a5];exact YZ.o),by first|exact BZ.o|(rw[<- a5];exact BZ.o)⟩
