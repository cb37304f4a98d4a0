/- -/
import Derived.Test.YtkefajjcpcoajaaGreatDoorPkA0
import Derived.Lib.AtoiErrMem
import Derived.Test.YtkefajjcpcoajaaGreatDoorPkA12
import Derived.Test.YtkefajjcpcoajaaGreatDoorPkA17
set_option linter.all false
set_option maxRecDepth 100000
set_option maxHeartbeats 6400000
namespace Go.Proofs.YtkefajjcpcoajaaGreatDoor
open Go.RowKit Lx
variable {k:List UInt8}{n c j:Nat}{w w':World}{ao:Option Addr}
namespace Lx
theorem KM(l:List UInt8):decide (Lib.indexByte l 47>=0)=kG l:=by
 have y:=Lib.indexByte_ge l 47;by_cases h:0<=Lib.indexByte l 47
 . obtain⟨k,J⟩:∃k:Nat,Lib.indexByte l 47=k:=⟨(Lib.indexByte l 47).toNat,by omega⟩;obtain⟨m,_⟩:=Lib.indexByte_some J;rw[decide_eq_true h];symm;unfold kG;rw[List.any_eq_true];exact⟨47,List.mem_of_getElem? m,rfl⟩
 . rw[decide_eq_false h];symm;unfold kG;rw[List.any_eq_false];intro x G e;obtain⟨i,hi,H⟩:=List.mem_iff_getElem.1 G;have e':x=47:=UInt8.toNat_inj.1 (of_decide_eq_true e);exact Lib.indexByte_none (show Lib.indexByte l 47=-1 by omega) i (by rw[List.getElem?_eq_getElem hi,H,e'])
theorem Dt:∀ (l:List UInt8) (n:Nat),(∀c∈l,48<=c.toNat/\c.toNat<=57)->Lib.decFrom n l=some (l.foldl (λn c=>10*n+(c.toNat-48)) n):=by
 intro l;induction l with
 | nil=>intro n _;rfl
 | cons c r ih =>
  intro n h;have y:=h c (List.mem_cons_self ..);rw[Lib.decFrom,Lib.digitVal,if_pos y,List.foldl_cons];show Lib.decFrom (n*10+(c.toNat-48)) r=_;rw[Nat.mul_comm n 10];exact ih _ λd m=>h d (List.mem_cons_of_mem _ m)
theorem Du{l:List UInt8}(h:zg l=true):Lib.atoi l=some ((zz l:Nat):Int):=by
 cases l with
 | nil=>simp[zg] at h
 | cons c r =>
  have y:=Wr h;have m:=y c (List.mem_cons_self ..);have H:(c == 45)=false:=beq_eq_false_iff_ne.2 λe=>by rw[e] at m;revert m;decide
  have G:(c == 43)=false:=beq_eq_false_iff_ne.2 λe=>by rw[e] at m;revert m;decide
  simp only[Lib.atoi,H,G,Bool.false_eq_true,if_false];unfold Lib.decNat;rw[if_neg (by simp),Dt _ _ y];rfl
end Lx
theorem KO(v:List UInt8)(w:World) :
    Calls Tryz.prog 260 #[.string (stg v),.string ⟨#[47]⟩] w λe w'=>e=.returned (.bool (kG v))/\w=w':=by
 have m:=gf (stg v) w;rw[zL] at m;have y:=jA (KM v);obtain⟨R,H⟩:=jx1 (Lib.indexByte v 47);rw[H.o] at m y;obtain⟨K,V⟩:=jx1 (stg v);rw[V.o] at m |-;have m:=jA m;have J:Hid (jC 133 #[.string K,.string ⟨#[47]⟩] w λe w'=>e=.returned (.int .i64 R)/\w=w'):=by
  show Calls _ _ _ _ _;go_in;go_wp2_with fail;refine m.o.mono ?_;rintro e G ⟨rfl,rfl⟩;go_wp2_with fail;go_ret;exact⟨rfl,rfl⟩
 clear m;go_in;go_wp2_with fail;refine J.o.mono ?_;rintro e G ⟨rfl,rfl⟩;go_wp2_with fail;go_ret;exact⟨by rw[<- y.o];rfl,rfl⟩
theorem XV(v:List UInt8)(w:World)(hv:v.length<=1000000) :
    Calls Tryz.prog 243 #[.string (stg v)] w λe w'=>e=.returned (.bool (yC v))/\Below w.heap.size w w':=by
 have m:=UF (stg v) w (by rw[<- zR,zL];exact hv);rw[zL] at m;unfold yC;obtain⟨K,H⟩:=jx1 (stg v);rw[H.o] at m |-;cases G:xF v with
 | false =>
  rw[G] at m;rw[Bool.false_and];replace m:=jA m;clear G hv;go_in;go_wp2_with fail;refine m.o.mono ?_;rintro e J ⟨rfl,q,rfl⟩;clear m;go_wp2_with fail;go_ret;exact⟨rfl,below_drewN (Below.refl _ _) _⟩
 | true =>
  rw[G] at m;rw[Bool.true_and];replace m:=jA m;clear G hv;go_in;go_wp2_with fail;refine m.o.mono ?_;rintro e J ⟨rfl,q,rfl⟩;clear m;have y:=KO v (w.drewN q);rw[H.o] at y;replace y:=jA y;go_wp2_with fail;refine y.o.mono ?_;rintro e V ⟨rfl,rfl⟩;clear y;go_wp2_with fail;go_ret;exact⟨rfl,below_drewN (Below.refl _ _) _⟩
theorem UA(v:List UInt8)(w:World)(hv:v.length<=1000000) :
    Calls Tryz.prog 242 #[.string (stg v)] w λe w'=>e=.returned (.bool (zg v))/\Below w.heap.size w w':=by
 have m:=UF (stg v) w (by rw[<- zR,zL];exact hv);rw[zL] at m;have G:=Ph v;cases H:xF v;rw[H] at G m;rw[G,Bool.false_and,Bool.false_and];replace m:=jA m;obtain⟨K,V⟩:=jx1 (stg v);rw[V.o] at m |-;clear G H hv
 rotate_left
 obtain⟨c,r,rfl⟩:=J8 H;rw[H] at G m;rw[G,Bool.true_and];have i1:=Va (c:=c) (r:=r);have y:=λq=>KO (c :: r) (w.drewN q)
 obtain⟨Z,hZ⟩:=jx1 (kG (c :: r));rw[hZ.o] at y |-;obtain⟨K,V⟩:=jx1 (stg (c :: r));rw[V.o] at m i1 y |-;replace m:=jA m;replace y:=jA y;have hc:c.toNat<256:=c.toNat_lt;obtain⟨z,hz⟩:=jx1 (c.toNat);rw[hz.o] at i1 hc;have hG:Hid (ltA (c :: r)=decide (z<97)):=by
  show decide (c.toNat<97)=_;rw[hz.o]
 rw[hG.o];clear G H hv hG;by_cases J:z<97
 . rw[decide_eq_true J,Bool.true_and];have b1:decide ((z:Int)<97)=true:=decide_eq_true (by omega);go_in;go_wp2_with fail;refine m.o.mono ?_;rintro e w1 ⟨rfl,q,rfl⟩;clear m;have HS:=jA (y.o q);go_wp2_with fail;refine HS.o.mono ?_;rintro e w2 ⟨rfl,rfl⟩;clear HS;go_wp2_with fail;go_ret;exact⟨rfl,below_drewN (Below.refl _ _) _⟩
 rw[decide_eq_false J,Bool.false_and];have b1:decide ((z:Int)<97)=false:=decide_eq_false (by omega)
 rotate_left
 all_goals
   go_in;go_wp2_with fail;refine m.o.mono ?_;rintro e w1 ⟨rfl,q,rfl⟩;clear m;go_wp2_with fail;go_ret;exact⟨rfl,below_drewN (Below.refl _ _) _⟩
theorem ZU(v:List UInt8)(w:World)(hv:v=[]\/zg v=true)(hT:Tabs w) :
    Calls Tryz.prog 118 #[.string (stg v)] w λe w'=>e=.returned (.int .i64 ((zz v:Nat):Int))/\Below w.heap.size w w':=by
 have y:(stg v).size=v.length:=by rw[<- zR,zL]
 rcases hv with rfl|hn
 . obtain⟨tp,p,J⟩:=hT.err;have m:=jA (Tryz.strconv_Atoi_err_var (stg []) (by rw[y];decide) rfl tp p w J);have e1:((zz []:Nat):Int)=0:=rfl;rw[e1];clear J hT y e1;go_in;go_wp2_with fail;refine m.o.mono ?_;rintro e Z ⟨N,rfl,_,_,H⟩;replace H:=jA H;clear m;go_wp2_with fail;go_ret;exact⟨rfl,H.o⟩
 . have h6:=Wq hn;have m:=jA (Tryz.strconv_Atoi (stg v) ((zz v:Nat):Int) (by omega) (Du hn) w);obtain⟨K,hK⟩:=jx1 (stg v);rw[hK.o] at m |-;obtain⟨V,hV⟩:=jx1 (zz v);rw[hV.o] at m |-;clear hT y hn h6;go_in;go_wp2_with fail;refine m.o.mono ?_;rintro e Z ⟨rfl,t,G⟩;(have H:Hid (Below w.heap.size w Z):=by show Below _ _ _;rw[G];exact Lib.bytesWorld_below _ _ _);clear m G;go_wp2_with fail;go_ret;exact⟨rfl,H.o⟩
namespace Lx
def uw(k:List UInt8):List zC->Option Nat
  | []=>none
  | f :: r=>if f.key=k then some 0 else (uw k r).map (· + 1)
def yY(fs:List zC)(k:List UInt8):Int:=match uw k fs with
 | some i=>i
 | none => -1
theorem QR:∀ {fs:List zC} {j:Nat} {f:zC},fs[j]? = some f->f.key=k->(∀ (t:Nat) g,t<j->fs[t]? = some g->g.key≠k)->uw k fs=some j
  | [],j,f,h,_,_=>by simp at h
  | u :: r,0,f,h,hk,_=>by
   (have:u=f:=by simpa using h);subst this;rw[uw,if_pos hk]
  | u :: r,j+1,f,h,hk,hz=>by
   have y:u.key≠k:=hz 0 u (by omega) (by simp);rw[uw,if_neg y,QR (fs:=r) (j:=j) (by simpa using h) hk (λt g G m=>hz (t+1) g (by omega) (by simpa using m))];rfl
theorem QS:∀ {fs:List zC},(∀ (t:Nat) g,fs[t]? = some g->g.key≠k)->uw k fs=none
  | [],_=>rfl
  | u :: r,hz=>by
   have hu:u.key≠k:=hz 0 u (by simp);rw[uw,if_neg hu,QS (fs:=r) (λt g hg=>hz (t+1) g (by simpa using hg))];rfl
theorem yu:∀ {fs:List zC} {j:Nat},uw k fs=some j->∃f,fs[j]? = some f/\fs.find? (λf=>decide (f.key=k))=some f
  | [],j,h=>by simp[uw] at h
  | u :: r,j,h=>by
   rw[uw] at h;by_cases hu:u.key=k
   . rw[if_pos hu] at h;injection h with h;subst h;exact⟨u,by simp,by rw[List.find?_cons,decide_eq_true hu]⟩
   . rw[if_neg hu] at h;obtain⟨i,hi,rfl⟩:=Option.map_eq_some_iff.1 h;obtain⟨f,h1,h2⟩:=yu hi;exact⟨f,by simpa using h1,by rw[List.find?_cons,decide_eq_false hu];exact h2⟩
theorem wT:∀ {fs:List zC},uw k fs=none->fs.find? (λf=>decide (f.key=k))=none
  | [],_=>rfl
  | u :: r,h=>by
   rw[uw] at h;by_cases hu:u.key=k
   . rw[if_pos hu] at h;cases h
   . rw[if_neg hu,Option.map_eq_none_iff] at h;rw[List.find?_cons,decide_eq_false hu];exact wT h
theorem Dv(fs:List zC)(k:List UInt8):decide (yY fs k>=0)=fs.any (λg=>decide (g.key=k)):=by
 unfold yY;cases h:uw k fs with
 | none =>
  have:=wT h;rw[List.find?_eq_none] at this;symm;show fs.any _=false;rw[List.any_eq_false];exact this
 | some j =>
  obtain⟨f,y,m⟩:=yu h;show decide ((j:Int)>=0)=_;rw[decide_eq_true (by omega)];symm;rw[List.any_eq_true];exact⟨f,List.mem_of_find?_eq_some m,by simpa using List.find?_some m⟩
theorem Ve(b:qK)(k:List UInt8):decide (yY b.flds k>=0)=xQ b k:=by
 unfold yY xQ j7;cases h:uw k b.flds with
 | none =>
  rw[wT h];rfl
 | some j =>
  obtain⟨f,y,m⟩:=yu h;rw[m];show decide ((j:Int)>=0)=true;exact decide_eq_true (by omega)
end Lx
def fV(f:zC)(vo:Option Addr)(vn vc:Nat):Value:=.agg #[.string (stg f.key),.slice vo vn vc,.int .i64 f.line]
theorem Mw(f:zC)(k:List UInt8)(vo:Option Addr)(vn vc p:Nat)(w:World)(hp:w.cell? ⟨p,0,none⟩=some (.string (stg k))) :
    Calls Tryz.prog 220 #[.agg #[.string (stg f.key),.slice vo vn vc,.int .i64 f.line],.pointer (some ⟨p,0,none⟩)] w λe w'=>e=.returned (.bool (decide (f.key=k)))/\Below w.heap.size w w':=by
 obtain⟨V,e1,m,y,hz⟩:=qG w 63 [.string (stg f.key),.slice vo vn vc,.int .i64 f.line];have G:=jA (kq f.key k);obtain⟨K,H⟩:=jx3 (stg f.key);obtain⟨L,J⟩:∃K,stg k=K:=⟨_,rfl⟩;rw[H] at e1 m G |-;rw[J] at hp G;have y0:V.cell? ⟨w.heap.size,0,none⟩=some (.string K):=m.cell 0;have y1:V.cell? ⟨p,0,none⟩=some (.string L):=(World.cell?_of_block (y.block _ (World.block_lt_of_cell? w _ hp))).trans hp;have Z:=jA y;clear m y hz H J hp;go_in;go_wp2_with fail;go_ret;exact⟨by rw[<- G.o];rfl,Z.o⟩
theorem UB(fs:List zC)(k:List UInt8)(p:Nat)(ao:Option Addr)(n c:Nat)(w:World)(h:FldS qU w ao n c fs)(hp:w.cell? ⟨p,0,none⟩=some (.string (stg k))) :
    Calls Tryz.prog 216 #[.slice ao n c,.func (.func 220) #[] #[.pointer (some ⟨p,0,none⟩)]] w λe w'=>e=.returned (.int .i64 (yY fs k))/\Below w.heap.size w w':=by
 obtain⟨a4,a0⟩:=h.caps;have J:=jA h.len;have H:=jA h;have HP:=jA hp;have a3:Hid (p<w.heap.size):=World.block_lt_of_cell? w _ hp;clear h hp;go_in;go_wp2_with fail;go_loopw [8] (λi wr=>∃j:Nat,j<=n/\i=.int .i64 (j:Int)/\Below w.heap.size w wr/\Hid (∀ (t:Nat) g,t<j->fs[t]? = some g->g.key≠k)) (λi _=>n-(intOf i).toNat)
 case atStart=>exact⟨0,Nat.zero_le _,rfl,Below.refl _ _,λt g ht=>absurd ht (by omega)⟩
 case round =>
  obtain⟨j,hj,rfl,B,HZ⟩:=hrel;have B:=jA B;by_cases a1:j<n
  . (have V:(j:Int)<(n:Int):=by omega);obtain⟨f,a,vo,vn,vc,Z,i1,c0,c1,c2,SL⟩:=(FldS.keep H.o qJ (qD _ B.o)).get j a1;have m:=jA (Mw f k vo vn vc p wr ((B.o.cell (p:=⟨p,0,none⟩) a3.o).trans HP.o));have Z:=jA Z;clear SL;by_cases G:f.key=k
    . rw[decide_eq_true G] at m;have hR:Hid (yY fs k=(j:Int)):=by
       show _=_;unfold yY;rw[QR Z.o G HZ.o]
      obtain⟨K,hK⟩:=jx1 (stg f.key);rw[hK.o] at c0 m;clear G;go_wp2_with fail;refine m.o.mono ?_;rintro e w1 ⟨rfl,y⟩;replace y:Hid (Below w.heap.size w w1):=B.o.trans (y.mono B.o.size);clear m c0 c1 c2 i1;go_wp2_with fail;go_ret;exact⟨by rw[hR.o];rfl,y.o⟩
    . rw[decide_eq_false G] at m;have a2:Hid (∀ (t:Nat) g,t<j+1->fs[t]? = some g->g.key≠k):=by
       intro t g ht e;by_cases h1:t=j
       . rw[h1,Z.o] at e;injection e with e;rw[<- e];exact G
       . exact HZ.o t g (by omega) e
      obtain⟨K,hK⟩:=jx1 (stg f.key);rw[hK.o] at c0 m;clear G;go_wp2_with fail;refine m.o.mono ?_;rintro e w1 ⟨rfl,y⟩;replace y:Hid (Below w.heap.size w w1):=B.o.trans (y.mono B.o.size);clear m c0 c1 c2 i1;go_wp2_with fail;go_roundw;(case rel=>exact⟨j+1,by omega,by go_num,y.o,a2⟩);case measure=>simp[intOf];omega
  . (have V:¬ (j:Int)<(n:Int):=by omega);have hR:Hid (yY fs k=-1):=by
     show _=_;unfold yY;rw[QS λt g e=>HZ.o t g (by have:=(List.getElem?_eq_some_iff.1 e).1;have:=J.o;omega) e]
    go_wp2_with fail;go_ret;exact⟨by rw[hR.o];rfl,B.o⟩
theorem Mx(f:zC)(k:List UInt8)(vo:Option Addr)(vn vc p:Nat)(w:World)(hp:w.cell? ⟨p,0,none⟩=some (.string (stg k))) :
    Calls Tryz.prog 170 #[.agg #[.string (stg f.key),.slice vo vn vc,.int .i64 f.line],.pointer (some ⟨p,0,none⟩)] w λe w'=>e=.returned (.bool (decide (f.key=k)))/\Below w.heap.size w w':=by
 obtain⟨V,e1,m,y,hz⟩:=qG w 63 [.string (stg f.key),.slice vo vn vc,.int .i64 f.line];have G:=jA (kq f.key k);obtain⟨K,H⟩:=jx3 (stg f.key);obtain⟨L,J⟩:∃K,stg k=K:=⟨_,rfl⟩;rw[H] at e1 m G |-;rw[J] at hp G;have y0:V.cell? ⟨w.heap.size,0,none⟩=some (.string K):=m.cell 0;have y1:V.cell? ⟨p,0,none⟩=some (.string L):=(World.cell?_of_block (y.block _ (World.block_lt_of_cell? w _ hp))).trans hp;have Z:=jA y;clear m y hz H J hp;go_in;go_wp2_with fail;go_ret;exact⟨by rw[<- G.o];rfl,Z.o⟩
theorem UC(fs:List zC)(k:List UInt8)(p:Nat)(ao:Option Addr)(n c:Nat)(w:World)(h:FldS qU w ao n c fs)(hp:w.cell? ⟨p,0,none⟩=some (.string (stg k))) :
    Calls Tryz.prog 216 #[.slice ao n c,.func (.func 170) #[] #[.pointer (some ⟨p,0,none⟩)]] w λe w'=>e=.returned (.int .i64 (yY fs k))/\Below w.heap.size w w':=by
 obtain⟨a4,a0⟩:=h.caps;have J:=jA h.len;have H:=jA h;have HP:=jA hp;have a3:Hid (p<w.heap.size):=World.block_lt_of_cell? w _ hp;clear h hp;go_in;go_wp2_with fail;go_loopw [8] (λi wr=>∃j:Nat,j<=n/\i=.int .i64 (j:Int)/\Below w.heap.size w wr/\Hid (∀ (t:Nat) g,t<j->fs[t]? = some g->g.key≠k)) (λi _=>n-(intOf i).toNat)
 case atStart=>exact⟨0,Nat.zero_le _,rfl,Below.refl _ _,λt g ht=>absurd ht (by omega)⟩
 case round =>
  obtain⟨j,hj,rfl,B,HZ⟩:=hrel;have B:=jA B;by_cases a1:j<n
  . (have V:(j:Int)<(n:Int):=by omega);obtain⟨f,a,vo,vn,vc,Z,i1,c0,c1,c2,SL⟩:=(FldS.keep H.o qJ (qD _ B.o)).get j a1;have m:=jA (Mx f k vo vn vc p wr ((B.o.cell (p:=⟨p,0,none⟩) a3.o).trans HP.o));have Z:=jA Z;clear SL;by_cases G:f.key=k
    . rw[decide_eq_true G] at m;have hR:Hid (yY fs k=(j:Int)):=by
       show _=_;unfold yY;rw[QR Z.o G HZ.o]
      obtain⟨K,hK⟩:=jx1 (stg f.key);rw[hK.o] at c0 m;clear G;go_wp2_with fail;refine m.o.mono ?_;rintro e w1 ⟨rfl,y⟩;replace y:Hid (Below w.heap.size w w1):=B.o.trans (y.mono B.o.size);clear m c0 c1 c2 i1;go_wp2_with fail;go_ret;exact⟨by rw[hR.o];rfl,y.o⟩
    . rw[decide_eq_false G] at m;have a2:Hid (∀ (t:Nat) g,t<j+1->fs[t]? = some g->g.key≠k):=by
       intro t g ht e;by_cases h1:t=j
       . rw[h1,Z.o] at e;injection e with e;rw[<- e];exact G
       . exact HZ.o t g (by omega) e
      obtain⟨K,hK⟩:=jx1 (stg f.key);rw[hK.o] at c0 m;clear G;go_wp2_with fail;refine m.o.mono ?_;rintro e w1 ⟨rfl,y⟩;replace y:Hid (Below w.heap.size w w1):=B.o.trans (y.mono B.o.size);clear m c0 c1 c2 i1;go_wp2_with fail;go_roundw;(case rel=>exact⟨j+1,by omega,by go_num,y.o,a2⟩);case measure=>simp[intOf];omega
  . (have V:¬ (j:Int)<(n:Int):=by omega);have hR:Hid (yY fs k=-1):=by
     show _=_;unfold yY;rw[QS λt g e=>HZ.o t g (by have:=(List.getElem?_eq_some_iff.1 e).1;have:=J.o;omega) e]
    go_wp2_with fail;go_ret;exact⟨by rw[hR.o];rfl,B.o⟩
theorem NJ(fs:List zC)(k:List UInt8)(p:Nat)(ao:Option Addr)(n c:Nat)(w:World)(h:FldS qU w ao n c fs)(hp:w.cell? ⟨p,0,none⟩=some (.string (stg k))) :
    Calls Tryz.prog 169 #[.slice ao n c,.func (.func 170) #[] #[.pointer (some ⟨p,0,none⟩)]] w λe w'=>e=.returned (.bool (fs.any λg=>decide (g.key=k)))/\Below w.heap.size w w':=by
 have m:=jA (UC fs k p ao n c w h hp);have G:=jA (Dv fs k);obtain⟨R,H⟩:=jx1 (yY fs k);rw[H.o] at m G;clear h hp;go_in;go_wp2_with fail;refine m.o.mono ?_;rintro e J ⟨rfl,y⟩;replace y:=jA y;clear m;go_wp2_with fail;go_ret;exact⟨by rw[<- G.o];rfl,y.o⟩
theorem KQ(b:qK)(k:List UInt8)(fo:Option Addr)(fn fc:Nat)(w:World)(h:FldS qU w fo fn fc b.flds) :
    Calls Tryz.prog 174 #[.agg #[.string (stg b.kind),.string (stg b.name),.slice fo fn fc,.int .i64 b.line],.string (stg k)] w λe w'=>e=.returned (.int .i64 (yY b.flds k))/\Below w.heap.size w w':=by
 obtain⟨V,e1,AV,y,hz⟩:=qG w 55 [.string (stg b.kind),.string (stg b.name),.slice fo fn fc,.int .i64 b.line];obtain⟨U,e2,AU,m,J⟩:=qG V 9 [.string (stg k)];have H:=jA (UB b.flds k V.heap.size fo fn fc U (FldS.keep (FldS.keep h qJ (qD _ y)) qJ (qD _ m)) (AU.cell 0));have y0:U.cell? ⟨w.heap.size,2,none⟩=some (.slice fo fn fc):=(AV.kept m).cell 2;rw[hz] at H;obtain⟨K,hK⟩:=jx1 (stg b.kind);obtain⟨N,hN⟩:∃K,Hid (stg b.name=K):=⟨_,rfl⟩;obtain⟨L,Z⟩:∃K,Hid (stg k=K):=⟨_,rfl⟩;rw[hK.o,hN.o] at e1;rw[Z.o] at e2;rw[hK.o,hN.o,Z.o];have HB:Hid (Below w.heap.size w U):=y.trans (m.mono y.size);clear h AV AU y m J;go_in;go_wp2_with fail;refine H.o.mono ?_;rintro e w1 ⟨rfl,G⟩;replace G:Hid (Below w.heap.size w w1):=HB.o.trans (G.mono HB.o.size);clear H;go_wp2_with fail;go_ret;exact⟨rfl,G.o⟩
theorem Row.low{s:Nat}{us:List Value}(h:Row qU s w ao n c us):Row (ya w.heap.size) s w ao n c us :=
 ⟨h.len,h.cap,h.room,h.isSome,λi u hu=>⟨(h.cell i u hu).1,World.block_lt_of_cell? w _ (h.cell i u hu).1⟩,h.nil0⟩
theorem FC.low:∀ {fs:List zC} {us:List Value},FC qU w fs us->FC (ya w.heap.size) w fs us
  | [],_,h=>h
  | _ :: _,_,⟨vo,vn,vc,r,h1,h2,h4⟩=>⟨vo,vn,vc,r,h1,Row.low h2,FC.low h4⟩
theorem FldS.low{fs:List zC}(h:FldS qU w ao n c fs):FldS (ya w.heap.size) w ao n c fs:=by
 obtain⟨us,y,m⟩:=h;exact⟨us,y.low,m.low⟩
theorem BC.low:∀ {fs:List qK} {us:List Value},BC qU w fs us->BC (ya w.heap.size) w fs us
  | [],_,h=>h
  | _ :: _,_,⟨vo,vn,vc,r,h1,h2,h4⟩=>⟨vo,vn,vc,r,h1,h2.low,BC.low h4⟩
theorem BlkS.low{bs:List qK}(h:BlkS qU w ao n c bs):BlkS (ya w.heap.size) w ao n c bs:=by
 obtain⟨us,y,m⟩:=h;exact⟨us,y.low,m.low⟩
theorem FldS.below{fs:List zC}(h:FldS qU w ao n c fs)(hb:Below w.heap.size w w'):FldS qU w' ao n c fs:=h.keep qJ (qD _ hb)
theorem BlkS.below{fs:List qK}(h:BlkS qU w ao n c fs)(hb:Below w.heap.size w w'):BlkS qU w' ao n c fs:=h.keep qJ (qD _ hb)
theorem StrL.below{fs:List (List UInt8)}(h:StrL qU w ao n c fs)(hb:Below w.heap.size w w'):StrL qU w' ao n c fs:=Row.keep h qJ (qD _ hb)
theorem kE{S:World->Nat->Prop}:∀k,S w k->qU w k:=λ_ _=>trivial
theorem qA{p:Addr}{v:Value}(h:w.cell? p=some v)(hb:Below w.heap.size w w'):w'.cell? p=some v:=(World.cell?_of_block (hb.block _ (World.block_lt_of_cell? w _ h))).trans h
section
variable {w : World} {ops : Array Oper} {rest : List Oper} {a : Act} {Q : Exit -> Act -> World -> Prop} {d : Option Tmp} {p q : Operand} {ty : TypeId} {pos : String} {after : Array Edge}
theorem xM{T E:TypeId}{s bytes:Nat}{z:Value}(ht:Tryz.prog.underlying T=some (.slice E))(hinfo:(Tryz.prog.info? E).map (λi=>(i.zero,i.size,i.bytes))=some (some z,s,bytes))(hzs:z.cells.size=s)(hs:0<s)(hby:bytes<=1000)
    {B:Nat} {ao:Option Addr} {n c:Nat} {us vs:List Value} (hO:w.ownsRow B E s (.slice ao n c) n us) (hB:B<=w.heap.size) (hn:n<=4000000) (hv:vs.length=s) (h1:∀u∈vs,u.oneCell'=true)
    (hp:a.eval p=.slice ao n c) (hq:a.eval q=.slice (some ⟨w.heap.size,0,none⟩) 1 1)
    (h:∀ao' c' w',w'.ownsRow B E s (.slice ao' (n+1) c') (n+1) (us++vs)->w.grownBy w' (Value.slice ao n c).ownBlock->Below B w w'->wpList Tryz.prog ops Q rest (a.put d (.slice ao' (n+1) c')) w') :
    wpList Tryz.prog ops Q (⟨d,.call { callee:=.builtin .append,args:=#[p,q],argTypes:=#[T,T] },ty,pos,after,none⟩ :: rest) a (w.alloc (.cells vs.toArray E)):=by
 obtain⟨i0,hi,Z,J,V⟩:=info_parts hinfo;have m:Below w.heap.size w (w.alloc (.cells vs.toArray E)):=(Below.refl _ _).alloc (Nat.le_refl _) _;have g1:w.grownBy (w.alloc (.cells vs.toArray E)) (Value.slice ao n c).ownBlock:=⟨m.os,m.tape,m.output,m.size,λk H _=>m.block k H⟩;have y:Arr (w.alloc (.cells vs.toArray E)) w.heap.size E vs:=Arr.new w _ vs;have a0:(w.alloc (.cells vs.toArray E)).ownsRow B E s (.slice ao n c) n us:=qQ hO m;have a1:(n+1)*bytes<=(4000000+1)*1000:=Nat.mul_le_mul (by omega) hby;refine wpList_append_own _ rfl p q T rfl B E i0 z s bytes ht hi Z J V hzs hs _ n _ hp a0 ⟨w.heap.size,0,none⟩ 1 1 vs hq (by omega) ?_ h1 (by unfold maxLen;omega) (by omega) (by simp;omega) ?_
 . intro j u hj;have e:=jm w.heap.size j;simp only[pt,Option.getD_some] at e;rw[e,y.cell];exact hj
 . intro v' w' G hg _;obtain⟨av,cv,hv⟩:∃ao c,v'=.slice ao (n+1) c:=by
    rcases G.2 with ⟨hv,h0⟩|⟨g,cap,_,hv,_⟩
    . omega
    . exact⟨_,cap,hv⟩
   subst hv;exact h av cv w' G (qC g1 hg) ((m.mono hB).trans ((Below.refl _ _).grown hg (by simp;omega) (λk H=>(World.ownsRow.lt hO k H).1)))
end
namespace Lx
theorem qg{α:Type}{l:List α}{a:α}(h:l[j]? = some a):l.take (j+1)=l.take j++[a]:=by
 rw[List.take_add_one,h];rfl
theorem ZM{bs:List qK}{b:qK}(h:bs[j]? = some b)(hk:b.kind=k):qH k (bs.take (j+1))=qH k (bs.take j)++[b]:=by
 unfold qH;rw[qg h,List.filter_append,List.filter_cons,if_pos (by simp[hk]),List.filter_nil]
theorem Zp{bs:List qK}{b:qK}(h:bs[j]? = some b)(hk:b.kind≠k):qH k (bs.take (j+1))=qH k (bs.take j):=by
 unfold qH;rw[qg h,List.filter_append,List.filter_cons,if_neg (by simp[hk]),List.filter_nil,List.append_nil]
theorem jn(k:List UInt8)(bs:List qK):(qH k bs).length<=bs.length:=List.length_filter_le _ _
end Lx
theorem ux(bs:List qK)(k:List UInt8)(ao:Option Addr)(n c:Nat)(w:World)(h:BlkS qU w ao n c bs)(hn:n<=2000000) :
    Calls Tryz.prog 61 #[.slice ao n c,.string (stg k)] w λe w'=>∃ro m d,e=.returned (.slice ro m d)/\BlkS qU w' ro m d (qH k bs)/\Below w.heap.size w w':=by
 obtain⟨a6,a4⟩:=h.caps;have G:=jA h.len;have H:=jA h.low;obtain⟨L,hL⟩:∃K,Hid (stg k=K):=⟨_,rfl⟩;rw[hL.o];clear h;go_in;go_wp2_with fail;go_loopw [5,7,10] (λv _ i wr=>∃ (j:Nat) (ro:Option Addr) (m d:Nat) (us:List Value),j<=n/\m<=j/\i=.int .i64 (j:Int)/\v=.slice ro m d/\wr.ownsRow w.heap.size 55 4 (.slice ro m d) m us/\BC (ya w.heap.size) wr (qH k (bs.take j)) us/\Below w.heap.size w wr) (λ_ _ i _=>n-(intOf i).toNat)
 case atStart=>exact⟨0,none,0,0,[],Nat.zero_le _,Nat.le_refl _,rfl,rfl,World.ownsRow_nil _ _ _ _,rfl,Below.refl _ _⟩
 case round =>
  obtain⟨w1,a5⟩:∃x,x=wr:=⟨_,rfl⟩;subst a5;obtain⟨j,ro,m,d,us,hj,hm,rfl,rfl,O,C,B⟩:=hrel;by_cases a2:j<n
  . (have a0:(j:Int)<(n:Int):=by omega);obtain⟨b,a,fo,fn,fc,hb,i1,c0,c1,c2,c3,FL⟩:=(H.o.keep (qp _) (zN B)).get j a2;obtain⟨V,J,e1,e2,Z,BW,zW,f0,f1,f2,f3,f4,f5,f6,f7⟩:=xl w1 55 (.string ⟨#[]⟩) (.string ⟨#[]⟩) (.slice none 0 0) (.int .i64 0) (.string (stg b.kind)) (.string (stg b.name)) (.slice fo fn fc) (.int .i64 b.line);obtain⟨y0,y1,y2,y3⟩:=Z.c4;have hq:=kq b.kind k;rw[hL.o] at hq;obtain⟨K,hK⟩:=jx1 (stg b.kind);obtain⟨N,hN⟩:∃K,Hid (stg b.name=K):=⟨_,rfl⟩;rw[hK.o] at c0 e2 y0 f2 f3 f4 f5 f6 f7 hq Z;rw[hN.o] at c1 e2 y1 f4 f5 f6 f7 Z;replace hb:=jA hb;have B2:Hid (Below w.heap.size w J):=B.trans (BW.mono B.size);have O2:Hid (J.ownsRow w.heap.size 55 4 (.slice ro m d) m us):=qQ O BW;have C2:Hid (BC (ya w.heap.size) J (qH k (bs.take j)) us):=C.keep (qp _) (zN (BW.mono B.size));have a3:Hid (FldS (ya w.heap.size) J fo fn fc b.flds):=FL.keep (qp _) (zN (BW.mono B.size));replace zW:=jA zW;by_cases y:b.kind=k
    . rw[decide_eq_true y] at hq;have HS:Hid (qH k (bs.take (j+1))=qH k (bs.take j)++[b]):=ZM hb.o y;have hz:w.heap.size<=J.heap.size:=B2.o.size;clear y O C B BW FL Z;go_wp2_with (at_builtin;refine xM (vs:=[.string K,.string N,.slice fo fn fc,.int .i64 b.line]) Tryz.underlying22 XD rfl (by decide) (by decide) O2.o hz (by omega) rfl (by intro u hu;simp at hu;rcases hu with rfl|rfl|rfl|rfl<;>rfl) rfl rfl ?_);intro a1 d3 w3 O3 G3 B3;have B4:Hid (Below w.heap.size w w3):=B2.o.trans B3;have C4:Hid (BC (ya w.heap.size) w3 (qH k (bs.take (j+1))) (us++[.string K,.string N,.slice fo fn fc,.int .i64 b.line])):=by
       show BC _ _ _ _;rw[HS.o,<- hK.o,<- hN.o];exact(C2.o.keep (qp _) (zN B3)).append ⟨fo,fn,fc,[],rfl,a3.o.keep (qp _) (zN B3),rfl⟩
      have O4:=jA O3;clear O3 G3 B3 e1 e2 f0 f1 f2 f3 f4 f5 f6 f7 y0 y1 y2 y3 c0 c1 c2 c3 i1 hz;go_wp2_with fail;go_roundw;(case rel=>exact⟨j+1,a1,m+1,d3,_,by omega,by omega,by go_num,rfl,O4.o,C4.o,B4.o⟩);case measure=>simp[intOf];omega
    . rw[decide_eq_false y] at hq;have HS:Hid (qH k (bs.take (j+1))=qH k (bs.take j)):=Zp hb.o y;clear y O C B BW FL Z;go_wp2_with fail;go_roundw;(case rel=>exact⟨j+1,ro,m,d,us,by omega,by omega,by go_num,rfl,O2.o,by rw[HS.o];exact C2.o,B2.o⟩);case measure=>simp[intOf];omega
  . (have a0:¬ (j:Int)<(n:Int):=by omega);have hR:Hid (bs.take j=bs):=List.take_of_length_le (by have:=G.o;omega);replace O:=jA O;replace C:=jA C;replace B:=jA B;go_wp2_with fail;go_ret;refine⟨ro,m,d,rfl,⟨us,Row.mono (Row.own O.o (by decide)) kE,?_⟩,B.o⟩;have:=C.o;rw[hR.o] at this;exact this.mono kE
