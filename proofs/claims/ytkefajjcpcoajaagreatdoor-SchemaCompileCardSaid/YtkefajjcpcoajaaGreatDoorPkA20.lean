/- -/
import Derived.Test.YtkefajjcpcoajaaGreatDoorPkA0
import Derived.Laws.Rows
import Derived.Deep.RegionHeld3
import Derived.Test.YtkefajjcpcoajaaGreatDoorPkA19
set_option linter.all false
set_option maxRecDepth 100000
set_option maxHeartbeats 6400000
namespace Go.Proofs.YtkefajjcpcoajaaGreatDoor
open Go.RowKit Lx
variable {w:World}{s:Bool}{a b:Option Addr}{n c m d:Nat}
namespace Lx
theorem Xb{α:Type}{p:α->Bool}:∀ {l:List α} {j:Nat} {a:α},l[j]? = some a->p a=true->(∀ (t:Nat) b,t<j->l[t]? = some b->p b=false)->l.find? p=some a
  | [],j,a,h,_,_=>by simp at h
  | u :: r,0,a,h,hp,_=>by
   (have:u=a:=by simpa using h);subst this;rw[List.find?_cons,hp]
  | u :: r,j+1,a,h,hp,hz=>by
   rw[List.find?_cons,hz 0 u (by omega) (by simp)];exact Xb (l:=r) (j:=j) (by simpa using h) hp (λt b y m=>hz (t+1) b (by omega) (by simpa using m))
theorem WM{α:Type}{p:α->Bool}{l:List α}(hz:∀ (t:Nat) b,l[t]? = some b->p b=false):l.find? p=none:=by
 rw[List.find?_eq_none];intro x m;obtain⟨i,hi,rfl⟩:=List.mem_iff_getElem.1 m;rw[hz i _ (List.getElem?_eq_getElem hi)];decide
end Lx
theorem KZ:∀ (j:Nat) (r:ZG),zr[j]? = some r->∀W,(Instr.index 113 (.agg QP.toArray) (.int .i64 (j:Int))).run Tryz.prog W=.ok (.agg #[.string (stg r.kind),.int .i64 r.most,.bool r.named]) W
  | 0,_,rfl,W=>by kernel_rfl
  | 1,_,rfl,W=>by kernel_rfl
  | 2,_,rfl,W=>by kernel_rfl
  | 3,_,rfl,W=>by kernel_rfl
  | 4,_,rfl,W=>by kernel_rfl
  | 5,_,rfl,W=>by kernel_rfl
  | 6,_,rfl,W=>by kernel_rfl
  | j+7,r,h,W=>by rw[List.getElem?_eq_none (by show 7<=j+7;omega)] at h;cases h
theorem K0:∀ (j:Nat) (r:jj),zf[j]? = some r->∀W,(Instr.index 218 (.agg gC.toArray) (.int .i64 (j:Int))).run Tryz.prog W=.ok (.agg #[.string (stg r.kind),.string (stg r.key),.int .i64 r.form,.int .i64 r.least,.int .i64 r.most]) W
  | 0,_,rfl,W=>by kernel_rfl
  | 1,_,rfl,W=>by kernel_rfl
  | 2,_,rfl,W=>by kernel_rfl
  | 3,_,rfl,W=>by kernel_rfl
  | 4,_,rfl,W=>by kernel_rfl
  | 5,_,rfl,W=>by kernel_rfl
  | 6,_,rfl,W=>by kernel_rfl
  | 7,_,rfl,W=>by kernel_rfl
  | 8,_,rfl,W=>by kernel_rfl
  | 9,_,rfl,W=>by kernel_rfl
  | 10,_,rfl,W=>by kernel_rfl
  | 11,_,rfl,W=>by kernel_rfl
  | 12,_,rfl,W=>by kernel_rfl
  | 13,_,rfl,W=>by kernel_rfl
  | 14,_,rfl,W=>by kernel_rfl
  | 15,_,rfl,W=>by kernel_rfl
  | 16,_,rfl,W=>by kernel_rfl
  | 17,_,rfl,W=>by kernel_rfl
  | 18,_,rfl,W=>by kernel_rfl
  | j+19,r,h,W=>by rw[List.getElem?_eq_none (by show 19<=j+19;omega)] at h;cases h
def M8(o:Option ZG):Value:=match o with
 | some r=>.tuple #[.agg #[.string (stg r.kind),.int .i64 r.most,.bool r.named],.bool true]
 | none=>.tuple #[.agg #[.string ⟨#[]⟩,.int .i64 0,.bool false],.bool false]
def M9(o:Option jj):Value:=match o with
 | some r=>.tuple #[.agg #[.string (stg r.kind),.string (stg r.key),.int .i64 r.form,.int .i64 r.least,.int .i64 r.most],.bool true]
 | none=>.tuple #[.agg #[.string ⟨#[]⟩,.string ⟨#[]⟩,.int .i64 0,.int .i64 0,.int .i64 0],.bool false]
theorem Jh(k:List UInt8)(w:World)(hT:Tabs w) :
    Calls Tryz.prog 166 #[.string (stg k)] w λe w'=>e=.returned (M8 (vJ k))/\Below w.heap.size w w':=by
 obtain⟨tt,fr,hg⟩:=(hT.blk);obtain⟨V,e1,AV,BV,hz⟩:=qG w 112 [.string ⟨#[]⟩,.int .i64 0,.bool false];have J:V.heap[0]? = some (.cells QP.toArray tt fr):=(BV.block _ (Array.getElem?_eq_some_iff.1 hg).1).trans hg;replace J:=jA J;obtain⟨L,hL⟩:∃K,Hid (stg k=K):=⟨_,rfl⟩;rw[hL.o];obtain⟨R,H⟩:=jx1 (vJ k);rw[H.o];obtain⟨bb,a0⟩:∃b,w.heap.size=b:=⟨_,rfl⟩;rw[a0] at AV;have A0:=jA AV;have HB:Hid (Below w.heap.size w V):=BV;have m:Hid (w.heap.size<=bb):=by show _<=_;omega
 clear hT hg AV BV hz;go_in;go_wp2_with (with_reducible refine wpList_load_row rfl 113 _ rfl 0 rfl tt QP.toArray fr _ J.o Tryz.underlying113 rfl (by kernel_rfl) ?_);go_loopw [5,7] (λ_ i wr=>∃j:Nat,j<=7/\i=.int .i64 (j:Int)/\Below V.heap.size V wr/\Hid (∀ (t:Nat) r,t<j->zr[t]? = some r->decide (r.kind=k)=false)) (λ_ i _=>7-(intOf i).toNat)
 case atStart=>exact⟨0,Nat.zero_le _,rfl,Below.refl _ _,λt g ht=>absurd ht (by omega)⟩
 case round =>
  obtain⟨w1,a4⟩:∃x,x=wr:=⟨_,rfl⟩;subst a4;obtain⟨j,hj,rfl,B,HZ⟩:=hrel;by_cases a2:j<7
  . (have a1:(j:Int)<7:=by omega);obtain⟨r,hr⟩:∃r,zr[j]? = some r:=⟨_,List.getElem?_eq_getElem (by show j<7;exact a2)⟩;have hI:=KZ j r hr;replace hr:=jA hr;have hq:=kq r.kind k;rw[hL.o] at hq;obtain⟨U,W1,e3,e4,AW,BW,zW,f0,f1,f2,f3,f4,f5⟩:=ze w1 112 (.string ⟨#[]⟩) (.int .i64 0) (.bool false) (.string (stg r.kind)) (.int .i64 r.most) (.bool r.named);obtain⟨y0,y1,y2⟩:=AW.c3;have A1:=jA ((A0.o.kept B).kept BW);have B2:Hid (Below V.heap.size V W1):=B.trans (BW.mono B.size);by_cases hk:r.kind=k
    . rw[decide_eq_true hk] at hq;have hF:Hid (vJ k=some r):=Xb hr.o (decide_eq_true hk) HZ.o;obtain⟨Y,e5,hY,AY,g0,g1,g2,g3,g4,g5⟩:=jY A1.o (.string (stg r.kind)) (.int .i64 r.most) (.bool r.named);obtain⟨r0,r1,r2⟩:=AY.c3;have BY:Hid (Below w.heap.size w Y):=by
       show Below _ _ _;rw[hY.o];exact(((HB.o.trans (B2.o.mono HB.o.size)).setCell (p:=⟨_,0,none⟩) m.o _).setCell (p:=⟨_,1,none⟩) m.o _).setCell (p:=⟨_,2,none⟩) m.o _
      obtain⟨K,hK⟩:=jx1 (stg r.kind);obtain⟨M,G⟩:=jx1 (r.most);obtain⟨Z,y⟩:∃M,Hid (r.named=M):=⟨_,rfl⟩;rw[hK.o,G.o,y.o] at hI e4 e5;rw[G.o] at y1 r1;rw[y.o] at y2 r2;rw[hK.o] at y0 r0 hq f2 f3 f4 f5 g2 g3 g4 g5;rw[G.o] at f4 f5 g4 g5;(have hO:Hid (M8 (some r)=.tuple #[.agg #[.string K,.int .i64 M,.bool Z],.bool true]):=by show _=_;rw[<- hK.o,<- G.o,<- y.o];rfl);clear hk B BW AW AY hY zW;go_wp2_with fail;refine bodyPost_ret (v:=.tuple #[.agg #[.string K,.int .i64 M,.bool Z],.bool true]) (by simp[results,Tryz.results166,go_sem,r0,r1,r2]) rfl ?_;exact⟨by rw[<- H.o,hF.o,hO.o],BY.o⟩
    . rw[decide_eq_false hk] at hq;have a3:Hid (∀ (t:Nat) r,t<j+1->zr[t]? = some r->decide (r.kind=k)=false):=by
       intro t g ht e;by_cases h1:t=j
       . rw[h1,hr.o] at e;injection e with e;rw[<- e];exact decide_eq_false hk
       . exact HZ.o t g (by omega) e
      obtain⟨K,hK⟩:=jx1 (stg r.kind);obtain⟨M,G⟩:=jx1 (r.most);obtain⟨Z,y⟩:∃M,Hid (r.named=M):=⟨_,rfl⟩;rw[hK.o,G.o,y.o] at hI e4;rw[G.o] at y1;rw[y.o] at y2;rw[hK.o] at y0 hq f2 f3 f4 f5;rw[G.o] at f4 f5;clear hk B BW AW zW;go_wp2_with fail;go_roundw;(case rel=>exact⟨j+1,by omega,by go_num,B2.o,a3⟩);case measure=>simp[intOf];omega
  . (have a1:¬ (j:Int)<7:=by omega);(have hF:Hid (vJ k=none):=WM λt b hb=>HZ.o t b (by have h1:=(List.getElem?_eq_some_iff.1 hb).1;have h2:t<7:=h1;omega) hb);obtain⟨Y,e5,hY,AY,g0,g1,g2,g3,g4,g5⟩:=jY (A0.o.kept B) (.string ⟨#[]⟩) (.int .i64 0) (.bool false);obtain⟨r0,r1,r2⟩:=AY.c3;have BY:Hid (Below w.heap.size w Y):=by
     show Below _ _ _;rw[hY.o];exact(((HB.o.trans (B.mono HB.o.size)).setCell (p:=⟨_,0,none⟩) m.o _).setCell (p:=⟨_,1,none⟩) m.o _).setCell (p:=⟨_,2,none⟩) m.o _
    clear B AY hY;go_wp2_with fail;refine bodyPost_ret (v:=.tuple #[.agg #[.string ⟨#[]⟩,.int .i64 0,.bool false],.bool false]) (by simp[results,Tryz.results166,go_sem,r0,r1,r2]) rfl ?_;exact⟨by rw[<- H.o,hF.o];rfl,by first|exact BY.o|(rw[<- a0];exact BY.o)⟩
theorem Ji(kd k:List UInt8)(w:World)(hT:Tabs w) :
    Calls Tryz.prog 168 #[.string (stg kd),.string (stg k)] w λe w'=>e=.returned (M9 (zi kd k))/\Below w.heap.size w w':=by
 obtain⟨tt,fr,hg⟩:=(hT.fld);obtain⟨V,e1,AV,BV,hz⟩:=qG w 212 [.string ⟨#[]⟩,.string ⟨#[]⟩,.int .i64 0,.int .i64 0,.int .i64 0];have Z:V.heap[1]? = some (.cells gC.toArray tt fr):=(BV.block _ (Array.getElem?_eq_some_iff.1 hg).1).trans hg;replace Z:=jA Z;obtain⟨D,hD⟩:∃K,Hid (stg kd=K):=⟨_,rfl⟩;obtain⟨L,hL⟩:∃K,Hid (stg k=K):=⟨_,rfl⟩;rw[hD.o,hL.o];obtain⟨R,J⟩:=jx1 (zi kd k);rw[J.o];obtain⟨bb,a4⟩:∃b,w.heap.size=b:=⟨_,rfl⟩;rw[a4] at AV;have A0:=jA AV;have HB:Hid (Below w.heap.size w V):=BV;have a5:Hid (w.heap.size<=bb):=by show _<=_;omega
 clear hT hg AV BV hz;go_in;go_wp2_with (with_reducible refine wpList_load_row rfl 218 _ rfl 1 rfl tt gC.toArray fr _ Z.o Tryz.underlying218 rfl (by kernel_rfl) ?_);go_loopw [7,9] (λ_ i wr=>∃j:Nat,j<=19/\i=.int .i64 (j:Int)/\Below V.heap.size V wr/\Hid (∀ (t:Nat) r,t<j->zf[t]? = some r->(decide (r.kind=kd)&&decide (r.key=k))=false)) (λ_ i _=>19-(intOf i).toNat)
 case atStart=>exact⟨0,Nat.zero_le _,rfl,Below.refl _ _,λt g ht=>absurd ht (by omega)⟩
 case round =>
  obtain⟨w1,a8⟩:∃x,x=wr:=⟨_,rfl⟩;subst a8;obtain⟨j,hj,rfl,B,HZ⟩:=hrel;by_cases a7:j<19
  . (have a6:(j:Int)<19:=by omega);obtain⟨r,hr⟩:∃r,zf[j]? = some r:=⟨_,List.getElem?_eq_getElem (by show j<19;exact a7)⟩;have hI:=K0 j r hr;replace hr:=jA hr;have hq:=kq r.kind kd;have hp:=kq r.key k;rw[hD.o] at hq;rw[hL.o] at hp;obtain⟨U,W1,e3,e4,AW,BW,zW,f0,f1,f2,f3,f4,f5,f6,f7,f8,f9⟩:=gb w1 212 (.string ⟨#[]⟩) (.string ⟨#[]⟩) (.int .i64 0) (.int .i64 0) (.int .i64 0) (.string (stg r.kind)) (.string (stg r.key)) (.int .i64 r.form) (.int .i64 r.least) (.int .i64 r.most);obtain⟨y0,y1,y2,y3,y4⟩:=AW.c5;have A1:=jA ((A0.o.kept B).kept BW);have B2:Hid (Below V.heap.size V W1):=B.trans (BW.mono B.size);obtain⟨Y,e5,AY,_,y,g0,g1,g2,g3,g4,g5,g6,g7,g8,H⟩:=Vf A1.o (.string (stg r.kind)) (.string (stg r.key)) (.int .i64 r.form) (.int .i64 r.least) (.int .i64 r.most);obtain⟨r0,r1,r2,r3,r4⟩:=AY.c5;have BY:Hid (Below w.heap.size w Y):=y _ _ (HB.o.trans (B2.o.mono HB.o.size)) a5.o;obtain⟨K,hK⟩:=jx1 (stg r.kind);obtain⟨K2,a1⟩:∃K,Hid (stg r.key=K):=⟨_,rfl⟩;obtain⟨M0,a2⟩:∃M,Hid (((r.form:Nat):Int)=M):=⟨_,rfl⟩;obtain⟨M1,a3⟩:∃M,Hid (((r.least:Nat):Int)=M):=⟨_,rfl⟩;obtain⟨M2,G⟩:∃M,Hid (((r.most:Nat):Int)=M):=⟨_,rfl⟩;rw[hK.o,a1.o,a2.o,a3.o,G.o] at hI e4 e5;rw[hK.o] at y0 r0 hq f2 f3 f4 f5 f6 f7 f8 f9 g2 g3 g4 g5 g6 g7 g8 H;rw[a1.o] at y1 r1 hp f4 f5 f6 f7 f8 f9 g4 g5 g6 g7 g8 H;rw[a2.o] at y2 r2 f6 f7 f8 f9 g6 g7 g8 H;rw[a3.o] at y3 r3 f8 f9 g8 H;rw[G.o] at y4 r4;(have hO:Hid (M9 (some r)=.tuple #[.agg #[.string K,.string K2,.int .i64 M0,.int .i64 M1,.int .i64 M2],.bool true]):=by show _=_;rw[<- hK.o,<- a1.o,<- a2.o,<- a3.o,<- G.o];rfl);clear B BW AW AY y zW;by_cases hk:r.kind=kd
    . rw[decide_eq_true hk] at hq;by_cases m:r.key=k
      . rw[decide_eq_true m] at hp;have hF:Hid (zi kd k=some r):=Xb hr.o (by rw[decide_eq_true hk,decide_eq_true m];rfl) HZ.o;clear hk m;go_wp2_with fail;refine bodyPost_ret (v:=.tuple #[.agg #[.string K,.string K2,.int .i64 M0,.int .i64 M1,.int .i64 M2],.bool true]) (by simp[results,Tryz.results168,go_sem,r0,r1,r2,r3,r4]) rfl ?_;exact⟨by rw[<- J.o,hF.o,hO.o],BY.o⟩
      . rw[decide_eq_false m] at hp;have a0:Hid (∀ (t:Nat) r,t<j+1->zf[t]? = some r->(decide (r.kind=kd)&&decide (r.key=k))=false):=by
         intro t g ht e;by_cases h1:t=j
         . rw[h1,hr.o] at e;injection e with e;rw[<- e,decide_eq_false m,Bool.and_false]
         . exact HZ.o t g (by omega) e
        clear hk m e5 g0 g1 g2 g3 g4 g5 g6 g7 g8 H r0 r1 r2 r3 r4 BY;go_wp2_with fail;go_roundw;(case rel=>exact⟨j+1,by omega,by go_num,B2.o,a0⟩);case measure=>simp[intOf];omega
    . rw[decide_eq_false hk] at hq;have a0:Hid (∀ (t:Nat) r,t<j+1->zf[t]? = some r->(decide (r.kind=kd)&&decide (r.key=k))=false):=by
       intro t g ht e;by_cases h1:t=j
       . rw[h1,hr.o] at e;injection e with e;rw[<- e,decide_eq_false hk,Bool.false_and]
       . exact HZ.o t g (by omega) e
      clear hk e5 g0 g1 g2 g3 g4 g5 g6 g7 g8 H r0 r1 r2 r3 r4 BY;go_wp2_with fail;go_roundw;(case rel=>exact⟨j+1,by omega,by go_num,B2.o,a0⟩);case measure=>simp[intOf];omega
  . (have a6:¬ (j:Int)<19:=by omega);(have hF:Hid (zi kd k=none):=WM λt b hb=>HZ.o t b (by have h1:=(List.getElem?_eq_some_iff.1 hb).1;have h2:t<19:=h1;omega) hb);obtain⟨Y,e5,AY,_,y,g0,g1,g2,g3,g4,g5,g6,g7,g8,H⟩:=Vf (A0.o.kept B) (.string ⟨#[]⟩) (.string ⟨#[]⟩) (.int .i64 0) (.int .i64 0) (.int .i64 0);obtain⟨r0,r1,r2,r3,r4⟩:=AY.c5;have BY:Hid (Below w.heap.size w Y):=y _ _ (HB.o.trans (B.mono HB.o.size)) a5.o;clear B AY y;go_wp2_with fail;refine bodyPost_ret (v:=.tuple #[.agg #[.string ⟨#[]⟩,.string ⟨#[]⟩,.int .i64 0,.int .i64 0,.int .i64 0],.bool false]) (by simp[results,Tryz.results168,go_sem,r0,r1,r2,r3,r4]) rfl ?_;exact⟨by rw[<- J.o,hF.o];rfl,by first|exact BY.o|(rw[<- a4];exact BY.o)⟩
theorem Jj(r:jj)(v:List UInt8)(w:World)(hv:v.length<=1000000)(hT:Tabs w) :
    Calls Tryz.prog 218 #[.agg #[.string (stg r.kind),.string (stg r.key),.int .i64 r.form,.int .i64 r.least,.int .i64 r.most],.string (stg v)] w λe w'=>e=.returned (.int .i64 ((Ux r v:Nat):Int))/\Below w.heap.size w w':=by
 obtain⟨V,e1,AV,BV,hz⟩:=qG w 212 [.string (stg r.kind),.string (stg r.key),.int .i64 r.form,.int .i64 r.least,.int .i64 r.most];have y:=UA v V hv;have HI:=λZ w1 hb=>ZU v w1 (Or.inr Z) ((hT.below BV).below hb)
 obtain⟨R,hR⟩:=jx1 (Ux r v);rw[hR.o];have A0:=jA AV;have HB:Hid (Below w.heap.size w V):=BV;obtain⟨K,hK⟩:=jx1 (stg v);obtain⟨Vn,a1⟩:∃K,Hid (zz v=K):=⟨_,rfl⟩;rw[hK.o] at y HI |-;rw[a1.o] at HI;cases Z:zg v
 . rw[Z] at y;(have h5:Hid (R=5):=by show _=_;rw[<- hR.o];unfold Ux;rw[Z];rfl);replace y:=jA y;clear HI hT AV BV hz Z hv;go_in;go_wp2_with fail;refine y.o.mono ?_;rintro e w1 ⟨rfl,m⟩;replace m:Hid (Below w.heap.size w w1):=HB.o.trans (m.mono HB.o.size);clear y;go_wp2_with fail;go_ret;exact⟨by rw[h5.o];rfl,m.o⟩
 rw[Z] at y;have a3:=uh Z;rw[a1.o] at a3;have hE:Hid (R=if Vn<r.least||r.most<Vn then 4 else 0):=by
  show _=_;rw[<- hR.o];unfold Ux;rw[Z,a1.o];rfl
 replace HI:=jA (HI Z);replace y:=jA y;clear hT AV BV hz Z hv;obtain⟨M1,G⟩:∃M,Hid (((r.least:Nat):Int)=M):=⟨_,rfl⟩;obtain⟨M2,H⟩:∃M,Hid (((r.most:Nat):Int)=M):=⟨_,rfl⟩;by_cases h1:Vn<r.least
 . (have a0:Hid (R=4):=by show _=_;rw[hE.o,decide_eq_true h1];rfl);have b1:decide ((Vn:Int)<M1)=true:=decide_eq_true (by rw[<- G.o];omega);rw[G.o,H.o] at e1 A0;rw[G.o,H.o];clear h1;go_in;go_wp2_with fail;refine y.o.mono ?_;rintro e w1 ⟨rfl,m⟩;have HJ:=jA (HI.o w1 m);have A1:=jA (A0.o.kept m);replace m:Hid (Below w.heap.size w w1):=HB.o.trans (m.mono HB.o.size);clear y HI;go_wp2_with fail;refine HJ.o.mono ?_;rintro e w2 ⟨rfl,J⟩;have y3:w2.cell? ⟨w.heap.size,3,none⟩=some (.int .i64 M1):=(A1.o.kept J).cell 3;replace J:Hid (Below w.heap.size w w2):=m.o.trans (J.mono m.o.size);clear HJ;go_wp2_with fail;go_ret;exact⟨by rw[a0.o];rfl,J.o⟩
 have b1:decide ((Vn:Int)<M1)=false:=decide_eq_false (by rw[<- G.o];omega);obtain⟨z,a2⟩:=jx3 (decide (M2<(Vn:Int)));have a0:Hid (R=if z then 4 else 0):=by
  show _=_;rw[hE.o,decide_eq_false h1,Bool.false_or,<- a2,<- H.o];by_cases h2:r.most<Vn
  . rw[if_pos (decide_eq_true h2),decide_eq_true (show((r.most:Nat):Int)<(Vn:Int) by omega)];rfl
  . rw[if_neg (by simpa using h2),decide_eq_false (show ¬ ((r.most:Nat):Int)<(Vn:Int) by omega)];rfl
 rw[G.o,H.o] at e1 A0;rw[G.o,H.o];clear h1;cases z
 rotate_left
 rotate_left
 all_goals
   go_in;go_wp2_with fail;refine y.o.mono ?_;rintro e w1 ⟨rfl,m⟩;have HJ:=jA (HI.o w1 m);have A1:=jA (A0.o.kept m);replace m:Hid (Below w.heap.size w w1):=HB.o.trans (m.mono HB.o.size);clear y HI;go_wp2_with fail;refine HJ.o.mono ?_;rintro e w2 ⟨rfl,J⟩;have y3:w2.cell? ⟨w.heap.size,3,none⟩=some (.int .i64 M1):=(A1.o.kept J).cell 3;have y4:w2.cell? ⟨w.heap.size,4,none⟩=some (.int .i64 M2):=(A1.o.kept J).cell 4;replace J:Hid (Below w.heap.size w w2):=m.o.trans (J.mono m.o.size);clear HJ;go_wp2_with fail;go_ret;exact⟨by rw[a0.o];rfl,J.o⟩
namespace Lx
open Q.RatMath in
theorem My(x y:R):Q.RatMath.cmp x y<0↔num (dv x)*((dv y).q:Int)<num (dv y)*((dv x).q:Int):=by
 have G:=Do (x:=x) (y:=y);have m:=Dn (x:=x) (y:=y);constructor
 . intro h;have a:=G.1 (by omega);(have b:¬ num (dv x)*((dv y).q:Int)=num (dv y)*((dv x).q:Int):=λe=>by have:=m.2 e;omega);omega
 . intro h;have a:=G.2 (by omega);(have b:¬ Q.RatMath.cmp x y=0:=λe=>by have:=m.1 e;omega);omega
open Q.RatMath in
theorem Mz(x y:R):0<Q.RatMath.cmp x y↔num (dv y)*((dv x).q:Int)<num (dv x)*((dv y).q:Int):=by
 have m:=Do (x:=x) (y:=y);constructor
 . intro h;(have a:¬ num (dv x)*((dv y).q:Int)<=num (dv y)*((dv x).q:Int):=λe=>by have:=m.2 e;omega);omega
 . intro h;(have a:¬ Q.RatMath.cmp x y<=0:=λe=>by have:=m.1 e;omega);omega
open Q.RatMath in
theorem Vl(A D:Nat)(hD:D≠0):((nf ⟨false,A,D⟩).p:Int)*(D:Int)=(A:Int)*((nf ⟨false,A,D⟩).q:Int)/\num (nf ⟨false,A,D⟩)=((nf ⟨false,A,D⟩).p:Int):=by
 have h:=Mr (x:=⟨false,A,D⟩) hD;have m:(nf ⟨false,A,D⟩).s=false:=by
  unfold nf;split<;>rfl
 have e:num (nf ⟨false,A,D⟩)=((nf ⟨false,A,D⟩).p:Int):=by unfold num;rw[m];rfl
 rw[e] at h;exact⟨h,e⟩
open Q.RatMath in
theorem NN(A D P M:Nat)(hD:D≠0)(hQ:M≠0):Q.RatMath.cmp (nf ⟨false,A,D⟩) ⟨false,P,M⟩<0↔A*M<P*D:=by
 obtain⟨y,G⟩:=Vl A D hD;have H:(nf ⟨false,A,D⟩).q≠0:=Mq _;rw[My,MX,Dm (x:=⟨false,P,M⟩) hQ,G];show((nf ⟨false,A,D⟩).p:Int)*(M:Int)<(P:Int)*((nf ⟨false,A,D⟩).q:Int)↔_;generalize (nf ⟨false,A,D⟩).p=p at y
 generalize (nf ⟨false,A,D⟩).q=q at y H
 have m:p*D=A*q:=by exact_mod_cast y
 have k:((p:Int)*(M:Int)<(P:Int)*(q:Int))↔p*M<P*q:=by
  constructor
  . intro h;exact_mod_cast h
  . intro h;exact_mod_cast h
 rw[k];constructor
 . intro h;have a:p*M*D<P*q*D:=Nat.mul_lt_mul_of_pos_right h (by omega);(have b:p*M*D=A*M*q:=by rw[Nat.mul_right_comm,m,Nat.mul_right_comm]);have d:P*q*D=P*D*q:=Nat.mul_right_comm ..;rw[b,d] at a;exact Nat.lt_of_mul_lt_mul_right a
 . intro h;have a:A*M*q<P*D*q:=Nat.mul_lt_mul_of_pos_right h (by omega);(have b:p*M*D=A*M*q:=by rw[Nat.mul_right_comm,m,Nat.mul_right_comm]);have d:P*q*D=P*D*q:=Nat.mul_right_comm ..;rw[<- b,<- d] at a;exact Nat.lt_of_mul_lt_mul_right a
open Q.RatMath in
theorem NO(A D P M:Nat)(hD:D≠0)(hQ:M≠0):0<Q.RatMath.cmp (nf ⟨false,A,D⟩) ⟨false,P,M⟩↔P*D<A*M:=by
 obtain⟨m,G⟩:=Vl A D hD;have H:(nf ⟨false,A,D⟩).q≠0:=Mq _;rw[Mz,MX,Dm (x:=⟨false,P,M⟩) hQ,G];show(P:Int)*((nf ⟨false,A,D⟩).q:Int)<((nf ⟨false,A,D⟩).p:Int)*(M:Int)↔_;generalize (nf ⟨false,A,D⟩).p=p at m
 generalize (nf ⟨false,A,D⟩).q=q at m H
 have y:p*D=A*q:=by exact_mod_cast m
 have k:((P:Int)*(q:Int)<(p:Int)*(M:Int))↔P*q<p*M:=by
  constructor
  . intro h;exact_mod_cast h
  . intro h;exact_mod_cast h
 rw[k];have b:p*M*D=A*M*q:=by rw[Nat.mul_right_comm,y,Nat.mul_right_comm]
 have d:P*q*D=P*D*q:=Nat.mul_right_comm ..;constructor
 . intro h;have a:P*q*D<p*M*D:=Nat.mul_lt_mul_of_pos_right h (by omega);rw[b,d] at a;exact Nat.lt_of_mul_lt_mul_right a
 . intro h;have a:P*D*q<A*M*q:=Nat.mul_lt_mul_of_pos_right h (by omega);rw[<- b,<- d] at a;exact Nat.lt_of_mul_lt_mul_right a
theorem FG{v:List UInt8}(h:kG v=true):uM (stg v)=(stg (ku v),stg (kY v),true):=by
 have h0:0<=Lib.indexByte v 47:=of_decide_eq_true ((KM v).trans h);obtain⟨k,m⟩:∃k:Nat,Lib.indexByte v 47=k:=⟨(Lib.indexByte v 47).toNat,by omega⟩;obtain⟨Z,h2⟩:=Lib.indexByte_some m;obtain⟨G,H⟩:=List.getElem?_eq_some_iff.1 Z;have ht:∀ (l:List UInt8) (k:Nat) (G:k<l.length),l[k]=47->(∀i,i<k->l[i]?≠some 47)->(l.takeWhile λc => !decide (c.toNat=47))=l.take k/\(l.dropWhile λc => !decide (c.toNat=47))=l.drop k:=by
  intro l;induction l with
  | nil=>intro k m;simp at m
  | cons c r ih =>
   intro k m V J;cases k with
   | zero =>
    (have:c=47:=by simpa using V);subst this;simp
   | succ k =>
    (have hc:c≠47:=λe=>J 0 (by omega) (by simp[e]));(have y:c.toNat≠47:=λe=>hc (UInt8.toNat_inj.1 e));obtain⟨a,b⟩:=ih k (by simpa using m) (by simpa using V) (λi hi e=>J (i+1) (by omega) (by simpa using e));rw[List.takeWhile_cons,List.dropWhile_cons,if_pos (by simp[y]),if_pos (by simp[y]),a,b];exact⟨rfl,rfl⟩
 obtain⟨a,b⟩:=ht v k G H h2;unfold uM ku kY;rw[zL,if_pos h0,m,Int.toNat_natCast,a,b];have e1:(stg v).extract 0 k=stg (v.take k):=uH (by rw[wV,zL,zL]);have e2:(stg v).extract (k+1) (stg v).size=stg ((v.drop k).drop 1):=uH (by rw[gd,zL,zL,List.drop_drop]);rw[e1,e2]
end Lx
def RatO(w:World)(s:Bool)(a:Option Addr)(n c:Nat)(b:Option Addr)(m d:Nat)(z:Q.RatMath.R):Prop:=s=z.s/\Q.Lst .u32 w a n c (Q.NatMath.qL z.p)/\Q.Lst .u32 w b m d (Q.NatMath.qL z.q)/\n<=3/\m<=3
theorem RatO.below{w':World}{z:Q.RatMath.R}(h:RatO w s a n c b m d z)(hb:Below w.heap.size w w'):RatO w' s a n c b m d z:=⟨h.1,h.2.1.below hb,h.2.2.1.below hb,h.2.2.2⟩
def RatW(B:Nat)(w:World)(s:Bool)(a:Option Addr)(n c:Nat)(b:Option Addr)(m d:Nat)(z:Q.RatMath.R):Prop:=s=z.s/\Q.Own 144 .u32 B w a n c (Q.NatMath.qL z.p)/\Q.Own 144 .u32 B w b m d (Q.NatMath.qL z.q)/\n<=3/\m<=3
theorem RatW.low{B:Nat}{z:Q.RatMath.R}(h:RatW B w s a n c b m d z):RatO w s a n c b m d z:=⟨h.1,h.2.1.lst,h.2.2.1.lst,h.2.2.2⟩
theorem RatW.put{B g:Nat}{z:Q.RatMath.R}(h:RatW B w s a n c b m d z)(hg:g<B)(u0 u1 u2:Value):RatW B (put3 w g u0 u1 u2) s a n c b m d z :=
 ⟨h.1,Q.Own.put3 h.2.1 (Q.Own.hi h.2.1 hg) u0 u1 u2,Q.Own.put3 h.2.2.1 (Q.Own.hi h.2.2.1 hg) u0 u1 u2,h.2.2.2⟩
theorem WN(x y:Nat)(w:World)(hx:x<=4294967295)(hy:y<=4294967295) :
    Calls Tryz.prog 122 #[.int .i64 (x:Int),.int .i64 (y:Int)] w λe w'=>∃s a n c b m d,e=.returned (.agg #[.bool s,.slice a n c,.slice b m d])/\RatW w.heap.size w' s a n c b m d (Q.RatMath.nf ⟨false,x,y⟩)/\Below w.heap.size w w':=by
 have h:=Q.Mv (x:Int) (y:Int) w (by omega) (by omega) (by omega) (by omega) (by omega) (by omega);have e:(decide ((x:Int)<0) != decide ((y:Int)<0))=false:=by
  rw[decide_eq_false (by omega),decide_eq_false (by omega)];rfl
 rw[e,Int.natAbs_natCast,Int.natAbs_natCast] at h;refine h.mono λe w' ⟨s,a,n,c,b,m,d,h1,h2,h3,h4,h5,h6,h7⟩=>⟨s,a,n,c,b,m,d,h1,⟨h2,h3,h4,by omega,h6⟩,h7⟩
theorem PC(s1 s2:Bool)(a1 b1 a2 b2:Option Addr)(n1 c1 m1 d1 n2 c2 m2 d2:Nat)(z1 z2:Q.RatMath.R)(w:World)(h1:RatO w s1 a1 n1 c1 b1 m1 d1 z1)(h2:RatO w s2 a2 n2 c2 b2 m2 d2 z2) :
    Calls Tryz.prog 54 #[.agg #[.bool s1,.slice a1 n1 c1,.slice b1 m1 d1],.agg #[.bool s2,.slice a2 n2 c2,.slice b2 m2 d2]] w λe w'=>e=.returned (.int .i64 (Q.RatMath.cmp z1 z2))/\Below w.heap.size w w':=by
 obtain⟨rfl,J,V,H,m⟩:=h1;obtain⟨rfl,y,Z,G,k4⟩:=h2;have h:=Q.Ds z1.s z2.s a1 b1 a2 b2 n1 c1 m1 d1 n2 c2 m2 d2 3 _ _ _ _ w J V y Z H m G k4 (by omega)
 rwa [Q.NatMath.qP,Q.NatMath.qP,Q.NatMath.qP,Q.NatMath.qP] at h
namespace Lx
def kr(v:List UInt8):Q.RatMath.R:=Q.RatMath.nf ⟨false,zz (ku v),zz (kY v)⟩
end Lx
theorem K4(v:List UInt8)(w:World)(hv:yC v=true)(hl:v.length<=1000000)(hT:Tabs w) :
    Calls Tryz.prog 68 #[.string (stg v)] w λe w'=>∃s a n c b m d,e=.returned (.agg #[.bool s,.slice a n c,.slice b m d])/\(∃B,w.heap.size<=B/\RatW B w' s a n c b m d (kr v))/\Below w.heap.size w w':=by
 obtain⟨V,e1,AV,BV,hz⟩:=qG w 32 [.bool false,.slice none 0 0,.slice none 0 0];obtain⟨hA,hD⟩:=gS hv;have hs:kG v=true:=by unfold yC at hv;rw[Bool.and_eq_true] at hv;exact hv.2
 have HC:=M7 (stg v) V (by rw[<- zR,zL];exact hl);rw[FG hs] at HC;have H:=λy hb=>ZU (ku v) y (Or.inr hA) ((hT.below BV).below hb)
 have G:=λy hb=>ZU (kY v) y (Or.inr hD) ((hT.below BV).below hb)
 have a7:=uh hA;have a6:=uh hD;have HF:=λy=>WN (zz (ku v)) (zz (kY v)) y (by omega) (by omega)
 replace HF:∀y,jC 122 #[.int .i64 ((zz (ku v):Nat):Int),.int .i64 ((zz (kY v):Nat):Int)] y λe w'=>∃s a n c b m d,e=.returned (.agg #[.bool s,.slice a n c,.slice b m d])/\RatW y.heap.size w' s a n c b m d (kr v)/\Below y.heap.size y w':=HF
 obtain⟨Z,hZ⟩:∃K,Hid (kr v=K):=⟨_,rfl⟩;rw[hZ.o] at HF |-;obtain⟨NA,a2⟩:∃K,Hid (zz (ku v)=K):=⟨_,rfl⟩;obtain⟨ND,a4⟩:∃K,Hid (zz (kY v)=K):=⟨_,rfl⟩;obtain⟨KA,a5⟩:∃K,Hid (stg (ku v)=K):=⟨_,rfl⟩;obtain⟨KD,a3⟩:∃K,Hid (stg (kY v)=K):=⟨_,rfl⟩;obtain⟨K,hK⟩:=jx1 (stg v);rw[a2.o,a4.o] at HF;rw[a2.o,a5.o] at H;rw[a4.o,a3.o] at G;rw[hK.o,a5.o,a3.o] at HC;rw[hK.o];have A0:=jA AV;have HB:=jA BV;have a1:Hid (w.heap.size<=w.heap.size):=Nat.le_refl _;replace HC:=jA HC;replace H:=jA H;replace G:=jA G;replace HF:=jA HF;clear AV BV hz hA hD hs a7 a6 hv hl hT;go_in;go_wp2_with fail;refine HC.o.mono ?_;rintro e y ⟨rfl,q,hq⟩;have B1:Hid (Below V.heap.size V y):=by show Below _ _ _;rw[<- hq];exact below_drewN (Below.refl _ _) _
 clear HC hq;have J:=jA (H.o y B1.o);go_wp2_with fail;refine J.o.mono ?_;rintro e w2 ⟨rfl,B2⟩;replace B2:Hid (Below V.heap.size V w2):=B1.o.trans (B2.mono B1.o.size);clear J H;have J:=jA (G.o w2 B2.o);go_wp2_with fail;refine J.o.mono ?_;rintro e w3 ⟨rfl,B3⟩;replace B3:Hid (Below V.heap.size V w3):=B2.o.trans (B3.mono B2.o.size);clear J G;have J:=jA (HF.o w3);go_wp2_with fail;refine J.o.mono ?_;rintro e w4 ⟨s,a,n,c,b,m,d,rfl,RO,B4⟩;replace B4:Hid (Below V.heap.size V w4):=B3.o.trans (B4.mono B3.o.size);have a0:w.heap.size<w3.heap.size:=Nat.lt_of_lt_of_le A0.o.lt B3.o.size;have RY:=RO.put a0 (.bool s) (.slice a n c) (.slice b m d);clear J HF;obtain⟨Y,e5,hY,AY,g0,g1,g2,g3,g4,g5⟩:=jY (A0.o.kept B4.o) (.bool s) (.slice a n c) (.slice b m d);obtain⟨r0,r1,r2⟩:=AY.c3;have BY:Hid (Below w.heap.size w Y):=by
  show Below _ _ _;rw[hY.o];exact(((HB.o.trans (B4.o.mono HB.o.size)).setCell (p:=⟨_,0,none⟩) a1.o _).setCell (p:=⟨_,1,none⟩) a1.o _).setCell (p:=⟨_,2,none⟩) a1.o _
 have HR:Hid (RatW w3.heap.size Y s a n c b m d Z):=by
  show RatW _ _ _ _ _ _ _ _ _ _;rw[hY.o];exact RY
 have a8:Hid (w.heap.size<=w3.heap.size):=Nat.le_of_lt a0;clear AY hY RY RO a0;go_wp2_with fail;refine bodyPost_ret (v:=.agg #[.bool s,.slice a n c,.slice b m d]) (by simp[results,Tryz.results68,go_sem,r0,r1,r2]) rfl ?_;exact⟨s,a,n,c,b,m,d,rfl,⟨_,a8.o,HR.o⟩,BY.o⟩
theorem Ga(v:List UInt8)(w:World)(hv:yC v=true)(hl:v.length<=1000000)(hT:Tabs w) :
    Calls Tryz.prog 68 #[.string (stg v)] w λe w'=>∃s a n c b m d,e=.returned (.agg #[.bool s,.slice a n c,.slice b m d])/\RatO w' s a n c b m d (kr v)/\Below w.heap.size w w' :=
 (K4 v w hv hl hT).mono λ_ _ ⟨s,a,n,c,b,m,d,h1,⟨_,_,h2⟩,h3⟩=>⟨s,a,n,c,b,m,d,h1,h2.low,h3⟩
namespace Lx
theorem FH{v:List UInt8}(hv:yC v=true):jl v=if decide (Q.RatMath.cmp (kr v) ⟨false,1,1000⟩<0)||decide (Q.RatMath.cmp (kr v) ⟨false,1,2⟩ > 0) then 4 else 0:=by
 unfold jl;rw[hv];simp only[Bool.not_true,Bool.false_eq_true,if_false];by_cases m:zz (kY v)=0
 . have G:kr v=Q.RatMath.zero:=Q.RatMath.yd (Or.inr m);(have y:Q.RatMath.cmp Q.RatMath.zero ⟨false,1,1000⟩<0:=by decide);rw[G,decide_eq_true y,decide_eq_true m];rfl
 . have y:=NN (zz (ku v)) (zz (kY v)) 1 1000 m (by decide);have H:=NO (zz (ku v)) (zz (kY v)) 1 2 m (by decide);have V:decide (Q.RatMath.cmp (kr v) ⟨false,1,1000⟩<0)=decide (1000*zz (ku v)<zz (kY v)):=by
    rw[Bool.eq_iff_iff,decide_eq_true_eq,decide_eq_true_eq];exact y.trans (by omega)
   have J:decide (Q.RatMath.cmp (kr v) ⟨false,1,2⟩ > 0)=decide (zz (kY v)<2*zz (ku v)):=by
    rw[Bool.eq_iff_iff,decide_eq_true_eq,decide_eq_true_eq];exact H.trans (by omega)
   rw[V,J,decide_eq_false m,Bool.false_or]
end Lx
theorem FI(k:Nat)(hk:Q.RatMath.nf ⟨false,1,k⟩=⟨false,1,k⟩)(hk2:k<=1000)(w:World) :
    Calls Tryz.prog 122 #[.int .i64 1,.int .i64 (k:Int)] w λe w'=>∃s a n c b m d,e=.returned (.agg #[.bool s,.slice a n c,.slice b m d])/\RatO w' s a n c b m d ⟨false,1,k⟩/\Below w.heap.size w w':=by
 have h:=WN 1 k w (by omega) (by omega);rw[hk] at h;exact h.mono λe w' ⟨s,a,n,c,b,m,d,h1,h2,h3⟩=>⟨s,a,n,c,b,m,d,h1,h2.low,h3⟩
theorem QU(w:World):Calls Tryz.prog 122 #[.int .i64 1,.int .i64 1000] w λe w'=>∃s a n c b m d,e=.returned (.agg #[.bool s,.slice a n c,.slice b m d])/\RatO w' s a n c b m d ⟨false,1,1000⟩/\Below w.heap.size w w':=FI 1000 (by decide) (by decide) w
theorem FJ(w:World):Calls Tryz.prog 122 #[.int .i64 1,.int .i64 2] w λe w'=>∃s a n c b m d,e=.returned (.agg #[.bool s,.slice a n c,.slice b m d])/\RatO w' s a n c b m d ⟨false,1,2⟩/\Below w.heap.size w w':=FI 2 (by decide) (by decide) w
theorem FM{s1 s2:Bool}{a1 b1 a2 b2:Option Addr}{n1 c1 m1 d1 n2 c2 m2 d2:Nat}{z1 z2:Q.RatMath.R}{C:Int}(hC:Hid (Q.RatMath.cmp z1 z2=C))(h1:RatO w s1 a1 n1 c1 b1 m1 d1 z1)(h2:RatO w s2 a2 n2 c2 b2 m2 d2 z2) :
    Calls Tryz.prog 54 #[.agg #[.bool s1,.slice a1 n1 c1,.slice b1 m1 d1],.agg #[.bool s2,.slice a2 n2 c2,.slice b2 m2 d2]] w λe w'=>e=.returned (.int .i64 C)/\Below w.heap.size w w':=by
 have h:=PC s1 s2 a1 b1 a2 b2 n1 c1 m1 d1 n2 c2 m2 d2 z1 z2 w h1 h2
 rwa [hC.o] at h
theorem Vm(v:List UInt8)(w:World)(hl:v.length<=1000000)(hT:Tabs w) :
    Calls Tryz.prog 219 #[.string (stg v)] w λe w'=>e=.returned (.int .i64 ((jl v:Nat):Int))/\Below w.heap.size w w':=by
 have HB:=XV v w hl;cases hv:yC v with
 | false =>
  rw[hv] at HB;have h5:jl v=5:=by unfold jl;rw[hv];rfl
  rw[h5];replace HB:=jA HB;obtain⟨K,hK⟩:=jx1 (stg v);rw[hK.o] at HB |-;clear hv hl hT h5;go_in;go_wp2_with fail;refine HB.o.mono ?_;rintro e w1 ⟨rfl,B1⟩;replace B1:=jA B1;clear HB;go_wp2_with fail;go_ret;exact⟨rfl,B1.o⟩
 | true =>
  rw[hv] at HB;have hE:=FH hv;have HR:=λw1 hb=>Ga v w1 hv hl (hT.below hb)
  obtain⟨Z,hZ⟩:∃K,Hid (kr v=K):=⟨_,rfl⟩;rw[hZ.o] at HR hE;obtain⟨C1,a2⟩:∃K,Hid (Q.RatMath.cmp Z ⟨false,1,1000⟩=K):=⟨_,rfl⟩;obtain⟨C2,a3⟩:∃K,Hid (Q.RatMath.cmp Z ⟨false,1,2⟩=K):=⟨_,rfl⟩;rw[a2.o,a3.o] at hE;obtain⟨E,a8⟩:∃K,Hid (jl v=K):=⟨_,rfl⟩;rw[a8.o] at hE |-;replace hE:=jA hE;obtain⟨K,hK⟩:=jx1 (stg v);rw[hK.o] at HB HR |-;replace HB:=jA HB;replace HR:=jA HR;clear hv hl hT;go_in;go_wp2_with fail;refine HB.o.mono ?_;rintro e w1 ⟨rfl,B1⟩;have HJ:=jA (HR.o w1 B1);replace B1:=jA B1;clear HB HR;go_wp2_with fail;refine HJ.o.mono ?_;rintro e w2 ⟨s,a,n,c,b,m,d,rfl,RO,B2⟩;obtain⟨V,U,e3,e4,AU,BU,a6,f0,f1,f2,f3,f4,f5⟩:=ze w2 32 (.bool false) (.slice none 0 0) (.slice none 0 0) (.bool s) (.slice a n c) (.slice b m d);have RU:=jA (RO.below BU);replace B2:Hid (Below w.heap.size w U):=(B1.o.trans (B2.mono B1.o.size)).trans (BU.mono (B1.o.trans (B2.mono B1.o.size)).size);obtain⟨g,hg⟩:=jx3 (w2.heap.size);rw[hg] at AU e4 f0 f1 f2 f3 f4 f5;clear HJ RO BU a6;obtain⟨y0,y1,y2⟩:=AU.c3;have AD:Hid (Arr U.drew g 32 [.bool s,.slice a n c,.slice b m d]):=AU.drew;have BD:Hid (Below w.heap.size w U.drew):=B2.o.drew;have RU:Hid (RatO U.drew s a n c b m d Z):=RU.o.below (Below.refl _ _).drew;clear AU;by_cases h1:C1<0
  . have b1:decide (C1<0)=true:=decide_eq_true h1;(have a0:Hid (E=4):=by show _=_;rw[hE.o,b1];rfl);go_wp2_with fail;clear e3 e4 f0 f1 f2 f3 f4 f5;go_region_with (first
    | (go_at_call 122;(with_reducible refine(QU _).mono ?_);rintro e w5 ⟨s5,a5,n5,c5,b5,m5,d5,rfl,R5,y⟩;have J:=jA (AD.o.kept y);have H:=jA (RU.o.below y);have z0:w5.cell? ⟨g,0,none⟩=some (.bool s):=J.o.cell 0;have z1:w5.cell? ⟨g,1,none⟩=some (.slice a n c):=J.o.cell 1;have z2:w5.cell? ⟨g,2,none⟩=some (.slice b m d):=J.o.cell 2;have R5:=jA R5;have y:=jA (BD.o.trans (y.mono BD.o.size)))
    | (go_at_call 54;(with_reducible refine(FM a2 H.o R5.o).mono ?_);rintro e w6 ⟨rfl,G⟩;have A6:=jA (J.o.kept G);have a1:=jA (H.o.below G);have k0:w6.cell? ⟨g,0,none⟩=some (.bool s):=A6.o.cell 0;have k1:w6.cell? ⟨g,1,none⟩=some (.slice a n c):=A6.o.cell 1;have k2:w6.cell? ⟨g,2,none⟩=some (.slice b m d):=A6.o.cell 2;have G:=jA (y.o.trans (G.mono y.o.size))))
    all_goals
      go_wp2_with fail;go_ret;exact⟨by rw[a0.o];rfl,G.o⟩
  . have b1:decide (C1<0)=false:=decide_eq_false h1;by_cases h2:C2 > 0
    . have b2:decide (C2 > 0)=true:=decide_eq_true h2;(have a0:Hid (E=4):=by show _=_;rw[hE.o,b1,b2];rfl);go_wp2_with fail;clear e3 e4 f0 f1 f2 f3 f4 f5;go_region_with (first
    | (go_at_call 122;(with_reducible refine(QU _).mono ?_);rintro e w5 ⟨s5,a5,n5,c5,b5,m5,d5,rfl,R5,y⟩;have J:=jA (AD.o.kept y);have H:=jA (RU.o.below y);have z0:w5.cell? ⟨g,0,none⟩=some (.bool s):=J.o.cell 0;have z1:w5.cell? ⟨g,1,none⟩=some (.slice a n c):=J.o.cell 1;have z2:w5.cell? ⟨g,2,none⟩=some (.slice b m d):=J.o.cell 2;have R5:=jA R5;have y:=jA (BD.o.trans (y.mono BD.o.size)))
    | (go_at_call 54;(with_reducible refine(FM a2 H.o R5.o).mono ?_);rintro e w6 ⟨rfl,G⟩;have A6:=jA (J.o.kept G);have a1:=jA (H.o.below G);have k0:w6.cell? ⟨g,0,none⟩=some (.bool s):=A6.o.cell 0;have k1:w6.cell? ⟨g,1,none⟩=some (.slice a n c):=A6.o.cell 1;have k2:w6.cell? ⟨g,2,none⟩=some (.slice b m d):=A6.o.cell 2;have G:=jA (y.o.trans (G.mono y.o.size)))
    | (go_at_call 122;(with_reducible refine(FJ _).mono ?_);rintro e w7 ⟨s7,a7,n7,c7,b7,m7,d7,rfl,R7,B7⟩;have A7:=jA (A6.o.kept B7);have a4:=jA (a1.o.below B7);have x0:w7.cell? ⟨g,0,none⟩=some (.bool s):=A7.o.cell 0;have x1:w7.cell? ⟨g,1,none⟩=some (.slice a n c):=A7.o.cell 1;have x2:w7.cell? ⟨g,2,none⟩=some (.slice b m d):=A7.o.cell 2;have R7:=jA R7;have B7:=jA (G.o.trans (B7.mono G.o.size)))
    | (go_at_call 54;(with_reducible refine(FM a3 a4.o R7.o).mono ?_);rintro e w8 ⟨rfl,B8⟩;have A8:=jA (A7.o.kept B8);have q0:w8.cell? ⟨g,0,none⟩=some (.bool s):=A8.o.cell 0;have q1:w8.cell? ⟨g,1,none⟩=some (.slice a n c):=A8.o.cell 1;have q2:w8.cell? ⟨g,2,none⟩=some (.slice b m d):=A8.o.cell 2;have B8:=jA (B7.o.trans (B8.mono B7.o.size))))
      all_goals
        go_wp2_with fail;go_ret;exact⟨by rw[a0.o];rfl,B8.o⟩
    . have b2:decide (C2 > 0)=false:=decide_eq_false h2;(have a0:Hid (E=0):=by show _=_;rw[hE.o,b1,b2];rfl);go_wp2_with fail;clear e3 e4 f0 f1 f2 f3 f4 f5;go_region_with (first
    | (go_at_call 122;(with_reducible refine(QU _).mono ?_);rintro e w5 ⟨s5,a5,n5,c5,b5,m5,d5,rfl,R5,y⟩;have J:=jA (AD.o.kept y);have H:=jA (RU.o.below y);have z0:w5.cell? ⟨g,0,none⟩=some (.bool s):=J.o.cell 0;have z1:w5.cell? ⟨g,1,none⟩=some (.slice a n c):=J.o.cell 1;have z2:w5.cell? ⟨g,2,none⟩=some (.slice b m d):=J.o.cell 2;have R5:=jA R5;have y:=jA (BD.o.trans (y.mono BD.o.size)))
    | (go_at_call 54;(with_reducible refine(FM a2 H.o R5.o).mono ?_);rintro e w6 ⟨rfl,G⟩;have A6:=jA (J.o.kept G);have a1:=jA (H.o.below G);have k0:w6.cell? ⟨g,0,none⟩=some (.bool s):=A6.o.cell 0;have k1:w6.cell? ⟨g,1,none⟩=some (.slice a n c):=A6.o.cell 1;have k2:w6.cell? ⟨g,2,none⟩=some (.slice b m d):=A6.o.cell 2;have G:=jA (y.o.trans (G.mono y.o.size)))
    | (go_at_call 122;(with_reducible refine(FJ _).mono ?_);rintro e w7 ⟨s7,a7,n7,c7,b7,m7,d7,rfl,R7,B7⟩;have A7:=jA (A6.o.kept B7);have a4:=jA (a1.o.below B7);have x0:w7.cell? ⟨g,0,none⟩=some (.bool s):=A7.o.cell 0;have x1:w7.cell? ⟨g,1,none⟩=some (.slice a n c):=A7.o.cell 1;have x2:w7.cell? ⟨g,2,none⟩=some (.slice b m d):=A7.o.cell 2;have R7:=jA R7;have B7:=jA (G.o.trans (B7.mono G.o.size)))
    | (go_at_call 54;(with_reducible refine(FM a3 a4.o R7.o).mono ?_);rintro e w8 ⟨rfl,B8⟩;have A8:=jA (A7.o.kept B8);have q0:w8.cell? ⟨g,0,none⟩=some (.bool s):=A8.o.cell 0;have q1:w8.cell? ⟨g,1,none⟩=some (.slice a n c):=A8.o.cell 1;have q2:w8.cell? ⟨g,2,none⟩=some (.slice b m d):=A8.o.cell 2;have B8:=jA (B7.o.trans (B8.mono B7.o.size))))
      all_goals
        go_wp2_with fail;go_ret;exact⟨by rw[a0.o];rfl,B8.o⟩
