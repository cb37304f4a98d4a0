/- -/
import Derived.Test.YtkefajjcpcoajaaGreatDoorPkA0
import Derived.Test.YtkefajjcpcoajaaGreatDoorPkA37
import Derived.Test.YtkefajjcpcoajaaGreatDoorPkA45
set_option linter.all false
set_option maxRecDepth 100000
set_option maxHeartbeats 51200000
namespace Go.Proofs.YtkefajjcpcoajaaGreatDoor
open Go.RowKit Lx
theorem MB(S:List qK)(r:RSt)(z:RSl)(B:Nat)(f:Nat×Int)(g:Nat)(w:World)(hR:RR B none w r z)(h:St w g (rC r z) f)(hf:f.1=0)(hs:r.e.stys=S.map λb=>⟨b.name,[],[]⟩)(hl:r.lines=S.map λb=>(zx b qB,zx b qO))(hn:r.names=S.map λb=>(qN b qB,qN b qO))(hP:r.e.precs.Nodup)(b1:r.e.conts.length<=1000000)(b2:r.e.precs.length<=100000)(b3:S.length<=1000000)(b4:∀b∈S,(qN b qB).length<=1000000/\(qN b qO).length<=1000000)(hB:B<=w.heap.size)(hg:B<=g) :
    Calls Tryz.prog 33 #[.pointer (some ⟨g,0,none⟩)] w λx w'=>x=.returned (.tuple #[])/\∃F',St w' g (rC r z) F'/\Below B w w'/\((F'.1=0/\(qz r.e.precs (r.e.conts.map Cst.name) [] S).1=0/\ElcS (geF B) w' { r.e with stys:=S.map (vM r.e.precs (r.e.conts.map Cst.name)) } z.s)\/(F'.1≠0/\F'=qz r.e.precs (r.e.conts.map Cst.name) [] S)):=by
 have L0:=jA (LR.start hR);have k0:=jA h;have k2:Hid (r.e.conts.length=z.s.cn):=hR.cst.len;have d9:Hid (r.e.precs.length=z.s.pn):=StrL.len hR.precs;have e9:Hid (S.length=z.nn):=by
  obtain⟨ns,a1,a2⟩:=hR.names;have e1:=a1.1;have e2:=a2.len;rw[hn,List.length_map] at e2;show _=_;omega
 have bc:z.s.cn<=1000000:=by rw[<- k2.o];exact b1
 have bn:z.nn<=1000000:=by rw[<- e9.o];exact b3
 have bp:z.s.pn<=100000:=by rw[<- d9.o];exact b2
 have q0:=P9 z.s.pn bp;have HD:Hid (∀W F,St W g (rC r z) F->W.cell? ⟨g,4,none⟩=some (.slice z.s.po z.s.pn z.s.pc)/\W.cell? ⟨g,5,none⟩=some (.slice z.s.co z.s.cn z.s.cc)/\W.cell? ⟨g,6,none⟩=some (.slice z.s.so z.s.sn z.s.sc)/\W.cell? ⟨g,15,none⟩=some (.slice z.lo z.ln z.lc)/\W.cell? ⟨g,16,none⟩=some (.slice z.no z.nn z.nc)):=λW F h=>⟨h.cellD 4 (by decide),h.cellD 5 (by decide),h.cellD 6 (by decide),h.cellD 15 (by decide),h.cellD 16 (by decide)⟩
 replace hs:=jA hs;replace hl:=jA hl;replace hn:=jA hn;replace hP:=jA hP;replace b4:=jA b4;replace hB:=jA hB;replace hg:=jA hg;clear h hR b1 b2 b3;obtain⟨d4,d5,d6,b0,a9⟩:=HD.o _ _ k0.o;go_in;go_wp2_with fail;go_loopw [2,3] (λs2 i wr=>∃ (j:Nat) (ko:Option Addr) (kn kc:Nat),j<=z.s.cn/\Hid (LR B (.slice ko kn kc) wr r z [])/\Hid (wr.ownsRow B 9 1 (.slice ko kn kc) kn (((r.e.conts.take j).map Cst.name).map λv=>.string (stg v)))/\s2=.slice ko kn kc/\i=.int .i64 (j:Int)/\Hid (St wr g (rC r z) f)/\Hid (Below B w wr)) (λ_ i _=>z.s.cn-(intOf i).toNat)
 case atStart=>exact⟨0,none,0,0,Nat.zero_le _,L0,World.ownsRow_nil _ _ _ _,rfl,rfl,k0,Below.refl _ _⟩
 case round =>
  clear L0 k0 d4 d5 d6 b0 a9;obtain⟨w1,p0⟩:∃x,x=wr:=⟨_,rfl⟩;subst p0;obtain⟨j,ko,kn,kc,hj,L,HO,rfl,rfl,J,HW⟩:=hrel;obtain⟨d4,d5,d6,b0,a9⟩:=HD.o _ _ J.o;have p8:Hid (kn=j):=by
   have:=HO.o.1;rw[List.length_map,List.length_map,List.length_take,Nat.min_eq_left (by rw[k2.o];exact hj)] at this;show _=_;omega
  have j3:Hid (B<=w1.heap.size):=Nat.le_trans hB.o HW.o.size;by_cases d8:j<z.s.cn
  . (have b9:(j:Int)<(z.s.cn:Int):=by omega);obtain⟨x,a',vo,vn,vc,k3,i1,c0,_,_,_,_,_,_,_,_,_⟩:=L.o.rr.cst.get j d8;have hx:=jA k3;obtain⟨KX,k4⟩:∃X,Hid (stg x.name=X):=⟨_,rfl⟩;rw[k4.o] at c0;clear k3;go_wp2_with (first
      | (at_builtin;refine uT (x:=.string KX) (us:=((r.e.conts.take j).map Cst.name).map λv=>.string (stg v)) (ao:=ko) (n:=kn) (c:=kc) HO.o j3.o (by have:=p8.o;omega) rfl rfl rfl ?_;intro l7 c8 w8 O8 G8 k5 B8;have L8:=jA (LR.known (v':=.slice l7 (kn+1) c8) L.o HO.o (Nat.le_refl _) G8 k5);have S8:Hid (St w8 g (rC r z) f):=⟨Arr.row J.o.arr HO.o (by decide) G8,J.o.len⟩;have W8:=jA (HW.o.trans B8);replace O8:=jA O8;clear G8 k5 B8)
      | fail)
    go_roundw;(case rel=>exact⟨j+1,l7,kn+1,c8,by omega,L8,by show World.ownsRow _ _ _ _ _ _ _;rw[qg hx.o,List.map_append,List.map_append];show World.ownsRow _ _ _ _ _ _ (_++[.string (stg x.name)]);rw[k4.o];exact O8.o,rfl,by go_num,S8,W8⟩);case measure=>simp[intOf];omega
  . (have b9:¬ (j:Int)<(z.s.cn:Int):=by omega);(have g8:(r.e.conts.take j).map Cst.name=r.e.conts.map Cst.name:=by rw[List.take_of_length_le (by rw[k2.o];omega)]);have j2:=HO.o;rw[g8] at j2;have n3:=jA (LR.rq (v:=.slice ko kn kc) L.o j2);have l5:=L.o.rr.stys;obtain⟨V,eV,j5,BV⟩:=Uq w1 r.e.precs (by rw[d9.o];exact bp);rw[d9.o] at eV;obtain⟨ub,h8⟩:∃x,w1.heap.size=x:=⟨_,rfl⟩;(have l3:Hid (B<=ub):=by show _<=_;rw[<- h8];exact j3.o);rw[h8] at j5;have HQ:=jA (n3.o.keep (qD _ BV));have i6:=jA (J.o.keep BV);have l8:Hid (Below B w V):=HW.o.trans (BV.mono j3.o);have k7:Hid (LS B V r z r.e.precs (r.e.conts.map Cst.name) S ub 0 []):=by
     refine⟨⟨[],?_,rfl⟩,j5,LkU.nil _,rfl⟩;rw[List.nil_append,List.drop_zero,<- hs.o];exact qQ l5 BV
    obtain⟨C,hC⟩:∃X,Hid (r.e.conts.map Cst.name=X):=⟨_,rfl⟩;obtain⟨P,q1⟩:∃X,Hid (r.e.precs=X):=⟨_,rfl⟩;obtain⟨v4,v5,v6,p6,p7⟩:=HD.o _ _ i6.o;clear n3 l5 j2 g8 j5 BV L HO;go_wp2_with fail;clear eV d4 d5 d6 b0 a9;(go_loopw [5,7,8,10,11] (λi _ _ _ _ wr=>∃ (j:Nat) (U:List (List UInt8)),j<=z.nn/\i=.int .i64 (j:Int)/\Hid (St wr g (rC r z) f)/\Hid (RQ B wr r z ko kn kc (r.e.conts.map Cst.name))/\Hid (LS B wr r z r.e.precs (r.e.conts.map Cst.name) S ub j U)/\Hid (Below B w wr)) (λi _ _ _ _ _=>z.nn-(intOf i).toNat));(case atStart=>exact⟨0,[],Nat.zero_le _,rfl,i6,HQ,k7,l8⟩);case round =>
     clear i6 HQ k7 l8 v4 v5 v6 p6 p7 J HW h8 d8 b9;obtain⟨w2,o7⟩:∃x,x=wr:=⟨_,rfl⟩;subst o7;obtain⟨j,U,hj,rfl,J,HQ,HL,HW⟩:=hrel;obtain⟨d4,d5,d6,b0,a9⟩:=HD.o _ _ J.o;by_cases d8:j<z.nn
     . (have b9:(j:Int)<(z.nn:Int):=by omega);obtain⟨b,f9⟩:∃b,S[j]? = some b:=⟨_,List.getElem?_eq_getElem (by rw[e9.o];exact d8)⟩;have hb:=jA f9;have n6:=jA (b4.o b (List.mem_of_getElem? f9));obtain⟨us,b7,k9⟩:=HQ.o.names;obtain⟨vo,vn,vc,xo,xn,xc,m0,h9,a6,a0⟩:=k9.own j (qN b qB,qN b qO) (by rw[hn.o,List.getElem?_map,f9];rfl);have c0:=(b7.cell _ _ m0).1;(have c1:w2.cell? ⟨(pt z.no (j*2)).block,(pt z.no (j*2)).off+1,none⟩=some (.slice xo xn xc):=by rw[vP z.no (j*2) 0];exact(b7.cell _ _ h9).1);have c7:Hid (w2.cell? ⟨(pt z.no (j*2)).block,(pt z.no (j*2)).off+1,none⟩=some (.slice xo xn xc)/\cF B w2 (pt z.no (j*2)).block):=⟨c1,by have e:=congrArg Addr.block (vP z.no (j*2) 0);dsimp only at e;rw[e];exact(b7.cell _ _ h9).2⟩;have i1:=yQ Tryz.underlying68 (show(Tryz.prog.info? 122).map (·.size)=some 2 by kernel_rfl) b7 j d8;obtain⟨na,n0⟩:∃x,pt z.no (j*2)=x:=⟨_,rfl⟩;rw[n0] at c0 c1 i1 c7;have g1:Hid ((qN b qB).length=vn):=StrL.len a6;have i7:Hid ((qN b qO).length=xn):=StrL.len a0;(have bv:vn<=1000000:=by rw[<- g1.o];exact n6.o.1);(have bx:xn<=1000000:=by rw[<- i7.o];exact n6.o.2);obtain⟨US1,l9,d7⟩:=HL.o.enter f9;replace a6:=jA a6;replace a0:=jA a0;have HI:=jA l9;replace d7:=jA d7;have H:=jA HL.o.used;have e7:=jA HL.o.u;have g5:=jA HL.o.go;obtain⟨VS,e0⟩:∃X,Hid (qN b qB=X):=⟨_,rfl⟩;obtain⟨XS,g7⟩:∃X,Hid (qN b qO=X):=⟨_,rfl⟩;obtain⟨L1,f3⟩:∃X,Hid (zx b qB=X):=⟨_,rfl⟩;obtain⟨L2,n4⟩:∃X,Hid (zx b qO=X):=⟨_,rfl⟩;rw[e0.o] at a6 g1;rw[g7.o] at a0 i7;clear f9 m0 h9 k9 l9 n0 HL b7;go_wp2_with fail;(go_loopw [60,7,8] (λcc _ _ wr=>∃ (t:Nat) (U':List (List UInt8)) (go:Option Addr) (gn gc:Nat),t<=vn/\cc=.int .i64 (t:Int)/\Hid (St wr g (rC r z) f)/\Hid (RQ B wr r z ko kn kc (r.e.conts.map Cst.name))/\Hid (StrL (cF B) wr vo vn vc VS)/\Hid (StrL (cF B) wr xo xn xc XS)/\Hid (LI B wr z ((S.take j).map (vM r.e.precs (r.e.conts.map Cst.name))) b.name ((S.drop (j+1)).map λb=>⟨b.name,[],[]⟩) US1 none 0 0 [] go gn gc ((VS.take t).map (jV r.e.precs)) false)/\Hid (Arr wr ub 4 ((xx r.e.precs U').map Value.bool))/\Hid (LkU r.e.precs U')/\Hid (jB r.e.precs L1 U VS=jB r.e.precs L1 U' (VS.drop t))/\Hid (Below B w wr)/\Hid (wr.cell? ⟨na.block,na.off+1,none⟩=some (.slice xo xn xc)/\cF B wr na.block)/\gn<=t) (λcc _ _ _=>vn-(intOf cc).toNat));(case atStart=>exact⟨0,U,none,0,0,Nat.zero_le _,rfl,J,HQ,a6,a0,HI,H,e7,rfl,HW,c7,Nat.zero_le _⟩);case round =>
        clear J HQ a6 a0 HI H e7 HW c7 d4 d5 d6 b0 a9 c0 c1;obtain⟨w3,i0⟩:∃x,x=wr:=⟨_,rfl⟩;subst i0;obtain⟨t,U',go,gn,gc,ht,rfl,J,HQ,a6,a0,HI,H,e7,f5,HW,c7,g6⟩:=hrel;obtain⟨d4,d5,d6,b0,a9⟩:=HD.o _ _ J.o;by_cases d0:t<vn
        . (have a7:(t:Int)<(vn:Int):=by omega);obtain⟨v,va,b5,i2,cv⟩:=StrL.get a6.o t d0;have hv:=jA b5;obtain⟨KV,g0⟩:∃X,Hid (stg v=X):=⟨_,rfl⟩;rw[g0.o] at cv;obtain⟨I,hI⟩:∃X,Hid (jV r.e.precs v=X):=⟨_,rfl⟩;(have HF:Hid (jC 32 #[.slice z.s.po z.s.pn z.s.pc,.string KV] w3 λe w'=>e=.returned (.int .i64 I)/\w3=w'):=by rw[<- g0.o,<- hI.o];exact vZ _ _ _ _ _ _ HQ.o.precs);(have tI:decide (I<0) = !r.e.precs.contains v:=by rw[<- hI.o,gx]);have a8:=HQ.o.lines;have h7:j<z.ln:=by
           have e1:=a8.len;rw[Y8,hl.o,List.length_map,e9.o] at e1;omega
          obtain⟨g3,g4⟩:=VI (xs:=r.lines) (j:=j) (p:=(zx b qB,zx b qO)) (by rw[hl.o,List.getElem?_map,hb.o];rfl);have i3:=yQ Tryz.underlying67 (show(Tryz.prog.info? 123).map (·.size)=some 2 by kernel_rfl) a8 j h7;have l0:=(a8.cell _ _ g3).1;obtain⟨la,f6⟩:∃x,pt z.lo (j*2)=x:=⟨_,rfl⟩;rw[f6] at i3 l0;dsimp only at l0;rw[f3.o] at l0;(have HX:Hid (∀ (e:Nat),e≠0->∀EI:Int,EI=(e:Int)->Calls Tryz.prog 30 #[.pointer (some ⟨g,0,none⟩),.int .i64 EI,.int .i64 L1] w3 λy W'=>y=.returned (.tuple #[])/\St W' g (rC r z) (e,L1)/\Below B w W'):=λe h0 EI hE=>(jO _ f e L1 g w3 J.o h0 EI hE).mono λy W' ⟨G,h2,h3⟩=>⟨G,by rw[kK _ hf h0] at h2;exact h2,HW.o.grown h3 (Nat.le_trans hB.o HW.o.size) (λk e=>by injection e with e;have:=hg.o;omega)⟩);clear b5 a8 g3 g4 f6;cases G:r.e.precs.contains v with
          | false =>
           rw[G] at tI;replace tI:decide (I<0)=true:=tI;have a4:Hid (qz r.e.precs (r.e.conts.map Cst.name) [] S=(2,L1)):=by
            show _=_;rw[g5.o];exact ww hb.o (U':=U') (by rw[f3.o,e0.o,f5.o];exact Y6 hv.o G) (by show(2:Nat)≠0;decide)
           clear G;go_wp2_with (first
             | (go_at_call 32;(with_reducible refine HF.o.mono ?_);rintro e wq ⟨rfl,rfl⟩)
             | (go_at_call 30;(with_reducible refine(HX.o 2 (by decide) 2 rfl).mono ?_);rintro e w4 ⟨rfl,S4,W4⟩)
             | fail)
           (try simp only[Exit.inBlock,Exit.then])
           refine bodyPost_ret (results_none rfl _ _ _) rfl ?_;exact⟨rfl,_,S4,W4,Or.inr ⟨by show(2:Nat)≠0;decide,a4.o.symm⟩⟩
          | true =>
           rw[G] at tI;replace tI:decide (I<0)=false:=tI;obtain⟨k,hk,d3⟩:=Y7 G;(have k1:I=(k:Int):=by rw[<- hI.o];exact hk);(have o3:k<z.s.pn:=by rw[<- d9.o];exact(List.getElem?_eq_some_iff.1 d3).1);subst k1;have i4:=Wi (ub:=ub) k o3;(have c6:((xx r.e.precs U').map Value.bool)[k]? = some (.bool (U'.contains v)):=by unfold xx;rw[List.getElem?_map,List.getElem?_map,d3];rfl);have cu:=(H.o.cell k).trans c6;replace d3:=jA d3;replace G:=jA G;replace hk:=jA hk;cases h2:U'.contains v with
           | true =>
            rw[h2] at cu;have a4:Hid (qz r.e.precs (r.e.conts.map Cst.name) [] S=(3,L1)):=by
             show _=_;rw[g5.o];exact ww hb.o (U':=U') (by rw[f3.o,e0.o,f5.o];exact VG hv.o G.o h2) (by show(3:Nat)≠0;decide)
            clear h2;go_wp2_with (first
              | (go_at_call 32;(with_reducible refine HF.o.mono ?_);rintro e wq ⟨rfl,rfl⟩)
              | (go_at_call 30;(with_reducible refine(HX.o 3 (by decide) 3 rfl).mono ?_);rintro e w4 ⟨rfl,S4,W4⟩)
              | fail)
            (try simp only[Exit.inBlock,Exit.then])
            refine bodyPost_ret (results_none rfl _ _ _) rfl ?_;exact⟨rfl,_,S4,W4,Or.inr ⟨by show(3:Nat)≠0;decide,a4.o.symm⟩⟩
           | false =>
            rw[h2] at cu c6;obtain⟨V1,e5,j0,GU,z5,z6⟩:=wZ H.o k (.bool true) (.bool false) c6;have p2:Hid (Arr V1 ub 4 ((xx r.e.precs (U'++[v])).map Value.bool)):=by
             show Arr _ _ _ _;rw[<- Cz hP.o d3.o,List.map_set];exact j0
            have SV:St V1 g (rC r z) f:=J.o.gr GU (yl J.o.arr H.o (by decide));have g2:Keeps (cF B) w3 V1:=zD H.o (by decide) GU;have QV:=HQ.o.keep g2;have l4:StrL (cF B) V1 vo vn vc VS:=Row.keep a6.o (qE _ _) g2;have m3:StrL (cF B) V1 xo xn xc XS:=Row.keep a0.o (qE _ _) g2;have IV:=HI.o.box H.o (by decide) (by decide) GU;have f0:B<=w3.heap.size:=Nat.le_trans hB.o HW.o.size;have WV:Below B w V1:=HW.o.grown GU f0 (λk e=>by injection e with e;have:=l3.o;omega);have n9:=jA (e7.o.add G.o h2);have o4:Hid (jB r.e.precs L1 U VS=jB r.e.precs L1 (U'++[v]) (VS.drop (t+1))):=f5.o.trans (Y4 hv.o G.o h2);obtain⟨gs,b6,cg,ig,o2,p4⟩:=IV.gs d7.o;simp only[if_false,Bool.false_eq_true] at cg;obtain⟨X,eX,AX,BX,zX⟩:=qG V1 3 [.int .i64 (k:Int)];clear zX;have IX:=IV.below BX;have SX:=SV.keep BX;have OX:=IX.grow;have m5:B<=V1.heap.size:=Nat.le_trans f0 GU.size;have d1:B<=X.heap.size:=Nat.le_trans m5 BX.size;have f7:=(HD.o _ _ SV).2.2.1;have f8:=(HD.o _ _ SX).2.2.1;have e8:=qA cg BX;replace j0:=jA j0;replace SV:=jA SV;replace QV:=jA QV;clear h2 c6;go_upto_region 18 with (first
              | (go_at_call 32;(with_reducible refine HF.o.mono ?_);rintro e wq ⟨rfl,rfl⟩)
              | fail)
            refine wL [(18,λw'=>w'.cell? ⟨g,6,none⟩=some (.slice z.s.so z.s.sn z.s.sc)),(17,λw'=>w'.cell? ⟨gs,j*3+1,none⟩=some (.slice go gn gc))] (by kernel_rfl) (sl2 (λ_=>f7) (λ_=>cg)) (λm=>?_);refine k8 (i:=0) (v:=?_) rfl rfl (by kernel_rfl) (by rfl) (λ_ _ _ h=>h) m ?_ ?_
            rotate_left
            intro w';go_simp<;>(try rfl);intro m;(try simp only[Act.put,jx5]);refine k8 (i:=1) (v:=?_) rfl rfl (by kernel_rfl) (by rfl) (λ_ _ _ h=>h) m ?_ ?_
            rotate_left
            intro w';go_simp<;>(try rfl);intro m;(try simp only[Act.put,jx5]);refine k8 (i:=2) (v:=?_) rfl rfl (by kernel_rfl) (by rfl) (λ_ _ _ h=>h) m ?_ ?_
            rotate_left
            intro w';go_simp<;>(try rfl);intro m;(try simp only[Act.put,jx5]);refine k8 (i:=3) (v:=?_) rfl rfl (by kernel_rfl) (by rfl) (λ_ _ _ h=>h) m ?_ ?_
            rotate_left
            intro w';go_simp<;>(try rfl);intro m;(try simp only[Act.put,jx5]);refine Ju (i:=4) (k:=0) (v:=?_) rfl rfl rfl (by kernel_rfl) (by rfl) (by rfl) (λ_ _ _ h=>h) m ?_ ?_
            rotate_left
            intro w' hc;dsimp only at hc;go_simp<;>(try rfl);intro m;(try simp only[Act.put,jx5]);refine k8 (i:=5) (v:=?_) rfl rfl (by kernel_rfl) (by rfl) (λ_ _ _ h=>h) m ?_ ?_
            rotate_left
            intro w';go_simp<;>(try rfl);intro m;(try simp only[Act.put,jx5]);refine k8 (i:=6) (v:=?_) rfl rfl (by kernel_rfl) (by rfl) (λ_ _ _ h=>h) m ?_ ?_
            rotate_left
            intro w';go_simp<;>(try rfl);intro m;(try simp only[Act.put,jx5]);refine k8 (i:=7) (v:=?_) rfl rfl (by kernel_rfl) (by rfl) (λ_ _ _ h=>h) m ?_ ?_
            rotate_left
            intro w';go_simp<;>(try rfl);intro m;(try simp only[Act.put,jx5]);refine k8 (i:=8) (v:=?_) rfl rfl (by kernel_rfl) (by rfl) (λ_ _ _ h=>h) m ?_ ?_
            rotate_left
            intro w';go_simp<;>(try rfl);intro m;(try simp only[Act.put,jx5]);refine k8 (i:=9) (v:=?_) rfl rfl (by kernel_rfl) (by rfl) (λ_ _ _ h=>h) m ?_ ?_
            rotate_left
            intro w';go_simp<;>(try rfl);intro m;(try simp only[Act.put,jx5]);refine Ju (i:=10) (k:=0) (v:=?_) rfl rfl rfl (by kernel_rfl) (by rfl) (by rfl) (λ_ _ _ h=>h) m ?_ ?_
            rotate_left
            intro w' hc;dsimp only at hc;go_simp<;>(try rfl);intro m;(try simp only[Act.put,jx5]);refine k8 (i:=11) (v:=?_) rfl rfl (by kernel_rfl) (by rfl) (λ_ _ _ h=>h) m ?_ ?_
            rotate_left
            intro w';go_simp<;>(try rfl);intro m;(try simp only[Act.put,jx5]);refine k8 (i:=12) (v:=?_) rfl rfl (by kernel_rfl) (by rfl) (λ_ _ _ h=>h) m ?_ ?_
            rotate_left
            intro w';go_simp<;>(try rfl);intro m;(try simp only[Act.put,jx5]);refine k8 (i:=13) (v:=?_) rfl rfl (by kernel_rfl) (by rfl) (λ_ _ _ h=>h) m ?_ ?_
            rotate_left
            intro w';go_simp<;>(try rfl);intro m;(try simp only[Act.put,jx5]);refine Ju (i:=14) (k:=1) (v:=?_) rfl rfl rfl (by kernel_rfl) (by rfl) (by rfl) (λ_ _ _ h=>h) m ?_ ?_
            rotate_left
            intro w' hc;dsimp only at hc;go_simp<;>(try rfl);intro m;(try simp only[Act.put,jx5]);refine k8 (i:=15) (v:=?_) rfl rfl (by kernel_rfl) (by rfl) (λ_ _ _ h=>h) m ?_ ?_
            rotate_left
            intro w';go_simp<;>(try rfl);intro m;(try simp only[Act.put,jx5]);refine jF (rs:=[16]) (by kernel_rfl) (by simp) ?_;refine jH rfl (by rfl) (λK hK=>?_) jg;(go_simp);refine hK.o _ _ (sl2 (λ_=>f8) (λ_=>e8)) ?_;clear hK K;intro m;(try simp only[Act.put,jx5]);refine jF (rs:=[17]) (by kernel_rfl) (by simp) ?_;refine jH rfl (by rfl) (λK hK=>?_) jg;refine uV (vs:=[.int .i64 (k:Int)]) Tryz.underlying58 UL rfl (by decide) (by decide) _ _ rfl AX OX d1 (by omega) rfl (by intro u hu;rw[List.mem_singleton.1 hu];rfl) rfl rfl ?_;intro h4 h5 w5 O5 a5 i9 _;have G5:X.grownBy w5 (Value.slice go gn gc).ownBlock:=⟨a5.os,a5.tape,a5.output,a5.size,a5.block⟩;obtain⟨Z,eZ,zZ,⟨m8,cZ⟩,GZ,rZ,f2⟩:=IX.add2 d7.o b6 O5 G5 i9;simp only[if_true,if_false,Bool.false_eq_true] at eZ zZ cZ;have e4:w5.cell? ⟨g,6,none⟩=some (.slice z.s.so z.s.sn z.s.sc):=(HD.o w5 f ⟨Arr.row SX.arr OX (by decide) G5,SX.len⟩).2.2.1;refine hK.o _ _ (sl2 (λ_=>e4) nof) ?_;clear hK K;intro m;(try simp only[Act.put,jx5]);refine jF (rs:=[18]) (by kernel_rfl) (by simp) ?_;refine jH rfl (by rfl) (λK hK=>?_) jg;(go_simp);refine hK.o _ _ (sl2 nof nof) ?_;clear hK K;intro m;(try simp only[Act.put,jx5]);refine k8 (i:=19) (v:=?_) rfl rfl (by kernel_rfl) (by rfl) (λ_ _ _ h=>h) m ?_ ?_
            rotate_left
            intro w';go_simp<;>(try rfl);intro m;(try simp only[Act.put,jx5]);refine jF (rs:=[20]) (by kernel_rfl) (by simp) ?_;refine jH rfl (by rfl) (λK hK=>?_) jg;(go_simp);refine hK.o _ _ (sl2 nof nof) ?_;clear hK K;intro m;(try simp only[Act.put,jx5]);refine Qh (by kernel_rfl) ?_ _;have IZ:=jA f2;have o5:Keeps (cF B) V1 X:=qD _ BX;have j1:Keeps (cF B) X w5:=zS OX G5 (by decide);have h6:Keeps (cF B) w5 Z:=by
             have f4:=rZ;rw[b6] at f4;exact zS f4 (v:=.slice (some ⟨gs,0,none⟩) z.s.sn z.s.sc) GZ (by decide)
            have d2:Keeps (cF B) V1 Z:=Keeps.trans (qE _ _) (Keeps.trans (qE _ _) o5 BX.size j1) (Nat.le_trans BX.size G5.size) h6;have QZ:=jA (QV.o.keep d2);have m9:Hid (StrL (cF B) Z vo vn vc VS):=Row.keep l4 (qE _ _) d2;have CZ:=jA (Wh (Wh c7.o g2) d2);have f1:Hid (StrL (cF B) Z xo xn xc XS):=Row.keep m3 (qE _ _) d2;have S5:St w5 g (rC r z) f:=⟨Arr.row SX.arr OX (by decide) G5,SX.len⟩;(have g6:g≠gs:=λe=>zI rZ S5.arr (by decide) (by rw[b6,<- e];rfl));have SZ:Hid (St Z g (rC r z) f):=S5.gr GZ g6;have A5:Arr w5 ub 4 ((xx r.e.precs (U'++[v])).map Value.bool):=Arr.row (p2.o.kept BX) OX (by decide) G5;(have i5:ub≠gs:=λe=>zI rZ A5 (by decide) (by rw[b6,<- e];rfl));have AZ:Hid (Arr Z ub 4 ((xx r.e.precs (U'++[v])).map Value.bool)):=kl A5 GZ i5;have WZ:Hid (Below B w Z):=((WV.trans (BX.mono m5)).grown G5 d1 (λk e=>(World.ownsRow.lt OX k e).1)).grown GZ (Nat.le_trans d1 G5.size) (λk e=>by injection e with e;omega);clear IV IX SX OX f2 rZ S5 A5 f7 f8 e4 cg e8 ig;go_wp2_with fail;go_roundw;(case rel=>exact⟨t+1,U'++[v],h4,gn+1,h5,by omega,by go_num,SZ,QZ,m9,f1,by show LI _ _ _ _ _ _ _ _ _ _ _ _ _ _ _ _;rw[qg hv.o,List.map_append];show LI _ _ _ _ _ _ _ _ _ _ _ _ _ _ (_++[jV r.e.precs v]) _;rw[hk.o];exact IZ.o,AZ,n9,o4,WZ,CZ,by omega⟩);case measure=>simp[intOf];omega
        . (have a7:¬ (t:Int)<(vn:Int):=by omega);have k6:VS.take t=VS:=List.take_of_length_le (by have:=g1.o;omega);have b8:=HI.o;rw[k6] at b8;have m6:=jA b8.two;have m4:Hid (jB r.e.precs L1 U VS=((0,0),U')):=f5.o.trans (Up (by have:=g1.o;omega));obtain⟨c1,_⟩:=c7.o;clear HI b8 f5 k6;obtain⟨p5,n7,o8,e1,e2,e3⟩:∃a b c,a=go/\b=gn/\c=gc:=⟨_,_,_,rfl,rfl,rfl⟩;subst e1;subst e2;subst e3;go_wp2_with fail;(go_loopw [130,10,11] (λcc _ _ wr=>∃ (t:Nat) (go:Option Addr) (gn gc:Nat),t<=xn/\cc=.int .i64 (t:Int)/\Hid (St wr g (rC r z) f)/\Hid (RQ B wr r z ko kn kc (r.e.conts.map Cst.name))/\Hid (StrL (cF B) wr xo xn xc XS)/\Hid (LI B wr z ((S.take j).map (vM r.e.precs (r.e.conts.map Cst.name))) b.name ((S.drop (j+1)).map λb=>⟨b.name,[],[]⟩) US1 p5 n7 o8 (VS.map (jV r.e.precs)) go gn gc ((XS.take t).map (jV (r.e.conts.map Cst.name))) true)/\Hid (Arr wr ub 4 ((xx r.e.precs U').map Value.bool))/\Hid (∀q∈XS.take t,(r.e.conts.map Cst.name).contains q=true)/\Hid (Below B w wr)/\gn<=t) (λcc _ _ _=>xn-(intOf cc).toNat));(case atStart=>exact⟨0,none,0,0,Nat.zero_le _,rfl,J,HQ,a0,m6,H,(by show ∀q∈_,_;intro q hq;rw[List.take_zero] at hq;cases hq),HW,Nat.zero_le _⟩);case round =>
           clear J HQ a0 m6 H HW c7 d4 d5 d6 b0 a9 c1 a6 d0 a7 ht g6;obtain⟨w4,o0⟩:∃x,x=wr:=⟨_,rfl⟩;subst o0;obtain⟨t,go,gn,gc,ht,rfl,J,HQ,a0,HI,H,g9,HW,g6⟩:=hrel;obtain⟨d4,d5,d6,b0,a9⟩:=HD.o _ _ J.o;by_cases d0:t<xn
           . (have a7:(t:Int)<(xn:Int):=by omega);obtain⟨v,va,b5,i2,cv⟩:=StrL.get a0.o t d0;have hv:=jA b5;obtain⟨KV,g0⟩:∃X,Hid (stg v=X):=⟨_,rfl⟩;rw[g0.o] at cv;obtain⟨I,hI⟩:∃X,Hid (jV (r.e.conts.map Cst.name) v=X):=⟨_,rfl⟩;(have HF:Hid (jC 32 #[.slice ko kn kc,.string KV] w4 λe w'=>e=.returned (.int .i64 I)/\w4=w'):=by rw[<- g0.o,<- hI.o];exact vZ _ _ _ _ _ _ HQ.o.ck);(have tI:decide (I<0) = !(r.e.conts.map Cst.name).contains v:=by rw[<- hI.o,gx]);have a8:=HQ.o.lines;have h7:j<z.ln:=by
              have e1:=a8.len;rw[Y8,hl.o,List.length_map,e9.o] at e1;omega
             obtain⟨g3,g4⟩:=VI (xs:=r.lines) (j:=j) (p:=(zx b qB,zx b qO)) (by rw[hl.o,List.getElem?_map,hb.o];rfl);have i3:=yQ Tryz.underlying67 (show(Tryz.prog.info? 123).map (·.size)=some 2 by kernel_rfl) a8 j h7;(have l0:w4.cell? ⟨(pt z.lo (j*2)).block,(pt z.lo (j*2)).off+1,none⟩=some (.int .i64 (zx b qO)):=by rw[vP z.lo (j*2) 0];exact(a8.cell _ _ g4).1);obtain⟨la,f6⟩:∃x,pt z.lo (j*2)=x:=⟨_,rfl⟩;rw[f6] at i3 l0;rw[n4.o] at l0;(have HX:Hid (∀ (e:Nat),e≠0->∀EI:Int,EI=(e:Int)->Calls Tryz.prog 30 #[.pointer (some ⟨g,0,none⟩),.int .i64 EI,.int .i64 L2] w4 λy W'=>y=.returned (.tuple #[])/\St W' g (rC r z) (e,L2)/\Below B w W'):=λe h0 EI hE=>(jO _ f e L2 g w4 J.o h0 EI hE).mono λy W' ⟨G,h2,h3⟩=>⟨G,by rw[kK _ hf h0] at h2;exact h2,HW.o.grown h3 (Nat.le_trans hB.o HW.o.size) (λk e=>by injection e with e;have:=hg.o;omega)⟩);clear b5 a8 g3 g4 f6;cases G:(r.e.conts.map Cst.name).contains v with
             | false =>
              rw[G] at tI;replace tI:decide (I<0)=true:=tI;have a4:Hid (qz r.e.precs (r.e.conts.map Cst.name) [] S=(2,L2)):=by
               show _=_;rw[g5.o,<- n4.o];exact Jw hb.o (U':=U') (by rw[f3.o,e0.o];exact m4.o) (v:=v) (by rw[g7.o];exact List.mem_of_getElem? hv.o) G
              clear G;go_wp2_with (first
                | (go_at_call 32;(with_reducible refine HF.o.mono ?_);rintro e wq ⟨rfl,rfl⟩)
                | (go_at_call 30;(with_reducible refine(HX.o 2 (by decide) 2 rfl).mono ?_);rintro e w5 ⟨rfl,S4,W4⟩)
                | fail)
              (try simp only[Exit.inBlock,Exit.then])
              refine bodyPost_ret (results_none rfl _ _ _) rfl ?_;exact⟨rfl,_,S4,W4,Or.inr ⟨by show(2:Nat)≠0;decide,a4.o.symm⟩⟩
             | true =>
              rw[G] at tI;replace tI:decide (I<0)=false:=tI;obtain⟨k,hk,d3⟩:=Y7 G;(have k1:I=(k:Int):=by rw[<- hI.o];exact hk);subst k1;have f0:B<=w4.heap.size:=Nat.le_trans hB.o HW.o.size;obtain⟨gs,b6,cg,ig,o2,p4⟩:=HI.o.gs d7.o;simp only[if_true] at cg;obtain⟨X,eX,AX,BX,zX⟩:=qG w4 3 [.int .i64 (k:Int)];clear zX;have IX:=HI.o.below BX;have SX:=J.o.keep BX;have OX:=IX.grow;have d1:B<=X.heap.size:=Nat.le_trans f0 BX.size;have f7:=d6;have f8:=(HD.o _ _ SX).2.2.1;have e8:=qA cg BX;have o9:Hid (∀q∈XS.take (t+1),(r.e.conts.map Cst.name).contains q=true):=by
               show ∀q∈_,_;intro q hq;rw[qg hv.o,List.mem_append,List.mem_singleton] at hq;rcases hq with hq|rfl
               . exact g9.o q hq
               . exact G
              replace hk:=jA hk;clear G d3;go_upto_region 26 with (first
                | (go_at_call 32;(with_reducible refine HF.o.mono ?_);rintro e wq ⟨rfl,rfl⟩)
                | fail)
              refine wL [(18,λw'=>w'.cell? ⟨g,6,none⟩=some (.slice z.s.so z.s.sn z.s.sc)),(17,λw'=>w'.cell? ⟨gs,j*3+2,none⟩=some (.slice go gn gc))] (by kernel_rfl) (sl2 (λ_=>f7) (λ_=>cg)) (λm=>?_);refine k8 (i:=0) (v:=?_) rfl rfl (by kernel_rfl) (by rfl) (λ_ _ _ h=>h) m ?_ ?_
              rotate_left
              intro w';go_simp<;>(try rfl);intro m;(try simp only[Act.put,jx5]);refine k8 (i:=1) (v:=?_) rfl rfl (by kernel_rfl) (by rfl) (λ_ _ _ h=>h) m ?_ ?_
              rotate_left
              intro w';go_simp<;>(try rfl);intro m;(try simp only[Act.put,jx5]);refine k8 (i:=2) (v:=?_) rfl rfl (by kernel_rfl) (by rfl) (λ_ _ _ h=>h) m ?_ ?_
              rotate_left
              intro w';go_simp<;>(try rfl);intro m;(try simp only[Act.put,jx5]);refine k8 (i:=3) (v:=?_) rfl rfl (by kernel_rfl) (by rfl) (λ_ _ _ h=>h) m ?_ ?_
              rotate_left
              intro w';go_simp<;>(try rfl);intro m;(try simp only[Act.put,jx5]);refine Ju (i:=4) (k:=0) (v:=?_) rfl rfl rfl (by kernel_rfl) (by rfl) (by rfl) (λ_ _ _ h=>h) m ?_ ?_
              rotate_left
              intro w' hc;dsimp only at hc;go_simp<;>(try rfl);intro m;(try simp only[Act.put,jx5]);refine k8 (i:=5) (v:=?_) rfl rfl (by kernel_rfl) (by rfl) (λ_ _ _ h=>h) m ?_ ?_
              rotate_left
              intro w';go_simp<;>(try rfl);intro m;(try simp only[Act.put,jx5]);refine k8 (i:=6) (v:=?_) rfl rfl (by kernel_rfl) (by rfl) (λ_ _ _ h=>h) m ?_ ?_
              rotate_left
              intro w';go_simp<;>(try rfl);intro m;(try simp only[Act.put,jx5]);refine k8 (i:=7) (v:=?_) rfl rfl (by kernel_rfl) (by rfl) (λ_ _ _ h=>h) m ?_ ?_
              rotate_left
              intro w';go_simp<;>(try rfl);intro m;(try simp only[Act.put,jx5]);refine k8 (i:=8) (v:=?_) rfl rfl (by kernel_rfl) (by rfl) (λ_ _ _ h=>h) m ?_ ?_
              rotate_left
              intro w';go_simp<;>(try rfl);intro m;(try simp only[Act.put,jx5]);refine k8 (i:=9) (v:=?_) rfl rfl (by kernel_rfl) (by rfl) (λ_ _ _ h=>h) m ?_ ?_
              rotate_left
              intro w';go_simp<;>(try rfl);intro m;(try simp only[Act.put,jx5]);refine Ju (i:=10) (k:=0) (v:=?_) rfl rfl rfl (by kernel_rfl) (by rfl) (by rfl) (λ_ _ _ h=>h) m ?_ ?_
              rotate_left
              intro w' hc;dsimp only at hc;go_simp<;>(try rfl);intro m;(try simp only[Act.put,jx5]);refine k8 (i:=11) (v:=?_) rfl rfl (by kernel_rfl) (by rfl) (λ_ _ _ h=>h) m ?_ ?_
              rotate_left
              intro w';go_simp<;>(try rfl);intro m;(try simp only[Act.put,jx5]);refine k8 (i:=12) (v:=?_) rfl rfl (by kernel_rfl) (by rfl) (λ_ _ _ h=>h) m ?_ ?_
              rotate_left
              intro w';go_simp<;>(try rfl);intro m;(try simp only[Act.put,jx5]);refine k8 (i:=13) (v:=?_) rfl rfl (by kernel_rfl) (by rfl) (λ_ _ _ h=>h) m ?_ ?_
              rotate_left
              intro w';go_simp<;>(try rfl);intro m;(try simp only[Act.put,jx5]);refine Ju (i:=14) (k:=1) (v:=?_) rfl rfl rfl (by kernel_rfl) (by rfl) (by rfl) (λ_ _ _ h=>h) m ?_ ?_
              rotate_left
              intro w' hc;dsimp only at hc;go_simp<;>(try rfl);intro m;(try simp only[Act.put,jx5]);refine k8 (i:=15) (v:=?_) rfl rfl (by kernel_rfl) (by rfl) (λ_ _ _ h=>h) m ?_ ?_
              rotate_left
              intro w';go_simp<;>(try rfl);intro m;(try simp only[Act.put,jx5]);refine jF (rs:=[16]) (by kernel_rfl) (by simp) ?_;refine jH rfl (by rfl) (λK hK=>?_) jg;(go_simp);refine hK.o _ _ (sl2 (λ_=>f8) (λ_=>e8)) ?_;clear hK K;intro m;(try simp only[Act.put,jx5]);refine jF (rs:=[17]) (by kernel_rfl) (by simp) ?_;refine jH rfl (by rfl) (λK hK=>?_) jg;refine uV (vs:=[.int .i64 (k:Int)]) Tryz.underlying58 UL rfl (by decide) (by decide) _ _ rfl AX OX d1 (by omega) rfl (by intro u hu;rw[List.mem_singleton.1 hu];rfl) rfl rfl ?_;intro h4 h5 w5 O5 a5 i9 _;have G5:X.grownBy w5 (Value.slice go gn gc).ownBlock:=⟨a5.os,a5.tape,a5.output,a5.size,a5.block⟩;obtain⟨Z,eZ,zZ,⟨m8,cZ⟩,GZ,rZ,f2⟩:=IX.add2 d7.o b6 O5 G5 i9;simp only[if_true,if_false,Bool.false_eq_true] at eZ zZ cZ;have e4:w5.cell? ⟨g,6,none⟩=some (.slice z.s.so z.s.sn z.s.sc):=(HD.o w5 f ⟨Arr.row SX.arr OX (by decide) G5,SX.len⟩).2.2.1;refine hK.o _ _ (sl2 (λ_=>e4) nof) ?_;clear hK K;intro m;(try simp only[Act.put,jx5]);refine jF (rs:=[18]) (by kernel_rfl) (by simp) ?_;refine jH rfl (by rfl) (λK hK=>?_) jg;(go_simp);refine hK.o _ _ (sl2 nof nof) ?_;clear hK K;intro m;(try simp only[Act.put,jx5]);refine k8 (i:=19) (v:=?_) rfl rfl (by kernel_rfl) (by rfl) (λ_ _ _ h=>h) m ?_ ?_
              rotate_left
              intro w';go_simp<;>(try rfl);intro m;(try simp only[Act.put,jx5]);refine jF (rs:=[20]) (by kernel_rfl) (by simp) ?_;refine jH rfl (by rfl) (λK hK=>?_) jg;(go_simp);refine hK.o _ _ (sl2 nof nof) ?_;clear hK K;intro m;(try simp only[Act.put,jx5]);refine Qh (by kernel_rfl) ?_ _;have IZ:=jA f2;have j1:Keeps (cF B) X w5:=zS OX G5 (by decide);have h6:Keeps (cF B) w5 Z:=by
               have f4:=rZ;rw[b6] at f4;exact zS f4 (v:=.slice (some ⟨gs,0,none⟩) z.s.sn z.s.sc) GZ (by decide)
              have d2:Keeps (cF B) w4 Z:=Keeps.trans (qE _ _) (Keeps.trans (qE _ _) (qD _ BX) BX.size j1) (Nat.le_trans BX.size G5.size) h6;have QZ:=jA (HQ.o.keep d2);have f1:Hid (StrL (cF B) Z xo xn xc XS):=Row.keep a0.o (qE _ _) d2;have S5:St w5 g (rC r z) f:=⟨Arr.row SX.arr OX (by decide) G5,SX.len⟩;(have l6:g≠gs:=λe=>zI rZ S5.arr (by decide) (by rw[b6,<- e];rfl));have SZ:Hid (St Z g (rC r z) f):=S5.gr GZ l6;have A5:Arr w5 ub 4 ((xx r.e.precs U').map Value.bool):=Arr.row (H.o.kept BX) OX (by decide) G5;(have i5:ub≠gs:=λe=>zI rZ A5 (by decide) (by rw[b6,<- e];rfl));have AZ:Hid (Arr Z ub 4 ((xx r.e.precs U').map Value.bool)):=kl A5 GZ i5;have WZ:Hid (Below B w Z):=((HW.o.trans (BX.mono f0)).grown G5 d1 (λk e=>(World.ownsRow.lt OX k e).1)).grown GZ (Nat.le_trans d1 G5.size) (λk e=>by injection e with e;omega);clear IX SX OX f2 rZ S5 A5 f7 f8 e4 cg e8 ig;go_wp2_with fail;go_roundw;(case rel=>exact⟨t+1,h4,gn+1,h5,by omega,by go_num,SZ,QZ,f1,by show LI _ _ _ _ _ _ _ _ _ _ _ _ _ _ _ _;rw[qg hv.o,List.map_append];show LI _ _ _ _ _ _ _ _ _ _ _ _ _ _ (_++[jV (r.e.conts.map Cst.name) v]) _;rw[hk.o];exact IZ.o,AZ,o9,WZ,by omega⟩);case measure=>simp[intOf];omega
           . (have a7:¬ (t:Int)<(xn:Int):=by omega);have p3:XS.take t=XS:=List.take_of_length_le (by have:=i7.o;omega);have b8:=HI.o;have j4:=g9.o;rw[p3] at b8 j4;rw[<- e0.o,<- g7.o] at b8;have m7:=Jx (P:=r.e.precs) (C:=(r.e.conts.map Cst.name)) (U:=U) hb.o (U':=U') (by rw[f3.o,e0.o];exact m4.o) (by rw[g7.o];exact j4);have p1:Hid (LS B w4 r z r.e.precs (r.e.conts.map Cst.name) S ub (j+1) U'):=b8.leave hb.o H.o e7.o (g5.o.trans m7);clear HI b8 j4 m7 g9 H;go_wp2_with fail;go_roundw;(case rel=>exact⟨j+1,U',by omega,by go_num,J,HQ,p1,HW⟩);case measure=>simp[intOf];omega
     . (have b9:¬ (j:Int)<(z.nn:Int):=by omega);(have i8:S.length<=j:=by rw[e9.o];omega);have e6:Hid (qz r.e.precs (r.e.conts.map Cst.name) [] S=if r.e.precs.any (λp => !U.contains p) then (6,0) else (0,0)):=HL.o.go.trans (VH i8 hP.o HL.o.u);have p9:Hid (z.s.pn<=100000):=bp;go_wp2_with fail;clear d4 d5 d6 b0 a9;(go_loopw [12] (λi wr=>∃ (t:Nat) (F2:Nat×Int),t<=z.s.pn/\i=.int .i64 (t:Int)/\Hid (St wr g (rC r z) F2)/\Hid (RQ B wr r z ko kn kc (r.e.conts.map Cst.name))/\Hid (LS B wr r z r.e.precs (r.e.conts.map Cst.name) S ub j U)/\Hid (Below B w wr)/\Hid ((F2.1=0/\∀q∈r.e.precs.take t,U.contains q=true)\/(F2=(6,0)/\r.e.precs.any (λp => !U.contains p)=true))) (λi _=>z.s.pn-(intOf i).toNat));(case atStart=>exact⟨0,f,Nat.zero_le _,rfl,J,HQ,HL,HW,Or.inl ⟨hf,λq hq=>by rw[List.take_zero] at hq;cases hq⟩⟩);case round =>
        clear J HQ HL HW d8 b9;obtain⟨w3,i0⟩:∃x,x=wr:=⟨_,rfl⟩;subst i0;obtain⟨t,F2,ht,rfl,J,HQ,HL,HW,HT⟩:=hrel;by_cases d0:t<z.s.pn
        . (have a7:(t:Int)<(z.s.pn:Int):=by omega);obtain⟨v,b5⟩:∃v,r.e.precs[t]? = some v:=⟨_,List.getElem?_eq_getElem (by rw[d9.o];exact d0)⟩;have hv:=jA b5;have i4:=Wi (ub:=ub) t d0;(have c6:((xx r.e.precs U).map Value.bool)[t]? = some (.bool (U.contains v)):=by unfold xx;rw[List.getElem?_map,List.getElem?_map,b5];rfl);have cu:=(HL.o.used.cell t).trans c6;clear b5 c6;cases hc:U.contains v with
          | true =>
           rw[hc] at cu;have n8:Hid ((F2.1=0/\∀q∈r.e.precs.take (t+1),U.contains q=true)\/(F2=(6,0)/\r.e.precs.any (λp => !U.contains p)=true)):=by
            rcases HT.o with ⟨G,h2⟩|G
            . refine Or.inl ⟨G,λq hq=>?_⟩;rw[qg hv.o,List.mem_append,List.mem_singleton] at hq;rcases hq with hq|rfl
              . exact h2 q hq
              . exact hc
            . exact Or.inr G
           clear hc;go_wp2_with fail;go_roundw;(case rel=>exact⟨t+1,F2,by omega,by go_num,J,HQ,HL,HW,n8⟩);case measure=>simp[intOf];omega
          | false =>
           rw[hc] at cu;have n5:Hid (r.e.precs.any (λp => !U.contains p)=true):=List.any_eq_true.2 ⟨v,List.mem_of_getElem? hv.o,by rw[hc];rfl⟩;have o6:Hid (z7 F2 6 0=(6,0)):=by
            show _=_;rcases HT.o with ⟨G,_⟩|⟨G,_⟩
            . exact kK _ G (by decide)
            . rw[G];rfl
           (have HX:Hid (jC 30 #[.pointer (some ⟨g,0,none⟩),.int .i64 6,.int .i64 0] w3 λy W'=>y=.returned (.tuple #[])/\St W' g (rC r z) (6,0)/\w3.grownBy W' (some g)):=(jO _ F2 6 0 g w3 J.o (by decide) 6 rfl).mono λy W' ⟨G,h2,h3⟩=>⟨G,by rw[o6.o] at h2;exact h2,h3⟩);clear hc;go_wp2_with (first
             | (go_at_call 30;(with_reducible refine HX.o.mono ?_);rintro e w4 ⟨rfl,S4,G4⟩;have Q4:=jA (HQ.o.keep (zD J.o.arr (by decide) G4));have L4:=jA (HL.o.box J.o.arr (by decide) (by decide) (by decide) G4);have W4:Hid (Below B w w4):=HW.o.grown G4 (Nat.le_trans hB.o HW.o.size) (λk e=>by injection e with e;have:=hg.o;omega))
             | fail)
           go_roundw;(case rel=>exact⟨t+1,(6,0),by omega,by go_num,S4,Q4,L4,W4,Or.inr ⟨rfl,n5.o⟩⟩);case measure=>simp[intOf];omega
        . (have a7:¬ (t:Int)<(z.s.pn:Int):=by omega);have a4:Hid ((F2.1=0/\(qz r.e.precs (r.e.conts.map Cst.name) [] S).1=0/\ElcS (geF B) w3 { r.e with stys:=S.map (vM r.e.precs (r.e.conts.map Cst.name)) } z.s)\/(F2.1≠0/\F2=qz r.e.precs (r.e.conts.map Cst.name) [] S)):=by
           rcases HT.o with ⟨G,h2⟩|⟨G,h2⟩
           . left;have o1:r.e.precs.any (λp => !U.contains p)=false:=by
              rw[List.any_eq_false];intro q hq;have:=h2 q (by rw[List.take_of_length_le (by rw[d9.o];omega)];exact hq);simp only[this,Bool.not_true,Bool.false_eq_true,not_false_eq_true]
             refine⟨G,by rw[e6.o,o1];rfl,?_⟩;obtain⟨US1,a1,a2⟩:=HL.o.row;rw[List.take_of_length_le i8] at a2;rw[List.drop_of_length_le i8] at a1;(have a3:w3.ownsRow B 60 3 (.slice z.s.so z.s.sn z.s.sc) z.s.sn US1:=by simpa[yZ] using a1);(have m1:∀k,cF B w3 k->geF B w3 k:=λk hk=>hk.1);(have m2:∀ {E:TypeId} k,qS B [E] w3 k->geF B w3 k:=λk hk=>hk.1);exact⟨Row.mono HQ.o.precs m1,HQ.o.conts.mono m1,⟨US1,Row.mono (Row.own (s:=3) a3 (by decide)) m2,a2.mono m2⟩,Row.mono HQ.o.num m1,Row.mono HQ.o.den m1⟩
           . right;refine⟨by rw[G];decide,?_⟩;rw[e6.o,h2,G];rfl
          go_wp2_with fail;go_end0;exact⟨rfl,F2.1,F2.2,J.o,HW.o,a4.o⟩
