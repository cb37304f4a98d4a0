/- -/
import Derived.Test.YtkefajjcpcoajaaGreatDoorPkA0
import Derived.Maps.AppendAt
import Derived.Lib.BufferRead
import Derived.Lib.SmallJoins
import Derived.Deep.RegionHeld3
import Derived.Deep.RegionLaw
import Derived.Test.YtkefajjcpcoajaaGreatDoorPkA8
import Derived.Test.YtkefajjcpcoajaaGreatDoorPkA9
import Derived.Test.YtkefajjcpcoajaaGreatDoorPkA11
set_option linter.all false
set_option maxRecDepth 100000
set_option maxHeartbeats 3200000
namespace Go.Proofs.YtkefajjcpcoajaaGreatDoor.Q
open Go.RowKit NatMath
variable {w w':World}{B n c:Nat}{ao:Option Addr}{xs:List Int}{k:IntKind}
def Tab (w : World) : Prop := Lib.TabIs Tryz.prog w "internal/strconv.uint64pow10" .u64 Lib.pow10Tab
theorem Tab.below(h:Tab w)(hb:Below w.heap.size w w'):Tab w':=Lib.tabBelow_of_tabIs h w' hb
theorem XR(B:Nat)(v:Value)(l:List UInt8)(x:Nat)(w:World)(h:OwnB B w v l)(hB:B<=w.heap.size)(hl:l.length<=1099511627776)(hx:x<18446744073709551616)(ht:Tab w) :
    Calls Tryz.prog 201 #[v,.int .u64 x,.int .i64 10] w λe w'=>∃v',e=.returned v'/\OwnB B w' v' (l++Lib.decDigits x)/\Below B w w'/\Lib.OthersKept 5 none w w':=by
 have G:Calls Tryz.prog 236 #[v,.int .u64 x,.int .i64 10] w λe w'=>∃v',e=.returned v'/\w'.ownsRow B 5 1 v' (l.length+(Lib.decDigits x).length) (Lib.byteCells l++Lib.byteCells (Lib.decDigits x))/\Below B w w'/\Lib.OthersKept 5 none w w':=by
  rcases Nat.lt_or_ge x 100 with h1|h1
  . exact Tryz.internal_strconv_AppendUint_10_small B l.length x h1 v (Lib.byteCells l) w h hB (by omega)
  . exact Tryz.internal_strconv_AppendUint_10_big B l.length x h1 hx v (Lib.byteCells l) w h hB (by omega) ht
 have H:=jA G;clear G;go_in;go_wp2_with fail;refine H.o.mono ?_;rintro e w' ⟨v',rfl,m,J,y⟩;go_wp2_with fail;go_ret;refine⟨_,rfl,?_,J,y⟩;show w'.ownsRow B 5 1 v' _ _;rw[Lib.byteCells_append,List.length_append];exact m
theorem OwnB.string{v:Value}{l:List UInt8}(h:OwnB B w v l):(convert 97 9 v).run Tryz.prog w=.ok (.string ⟨l.toArray⟩) w:=by
 rcases h.2 with ⟨rfl,h0⟩|⟨g,cap,cur,rfl,hg,hh,hn,hc,hs,ht⟩
 . obtain rfl:l=[]:=List.eq_nil_of_length_eq_zero h0;exact Lib.run_convert_nil_bytes w _ _ 5 0 Tryz.underlying97 Tryz.underlying5 Tryz.underlying9
 . exact run_convert_bytes_back w _ _ 5 ⟨g,0,none⟩ cap l Tryz.underlying97 Tryz.underlying5 Tryz.underlying9 (Lib.bytes_of_row hh (by simpa using ht))
def MU:Value->Nat | .slice _ n _=>n|_=>0
def yJ(v u:Value):Prop:=∀g,v.ownBlock=some g->u.ownBlock≠some g
theorem Pk(h:Lst .u32 w ao n c xs)(i:Nat)(hi:i<n) :
    ∀W,(Instr.indexAt 29 (.slice ao n c) (.int .i64 (i:Int))).run Tryz.prog W=.ok (.pointer (some (pt ao i))) W :=
 λW=>QO (P:=Tryz.prog) Tryz.underlying29 XM h i hi W
theorem wk{m:Nat}:(qL m).length=0↔m=0:=by
 constructor
 . intro h;rcases Nat.eq_zero_or_pos m with h0|h0
   . exact h0
   . rw[jx (by omega)] at h;simp at h
 . rintro rfl;rw[zh];rfl
theorem Own.apartKept{e:TypeId}{bo:Option Addr}{m d:Nat}(h:Own e k B w ao n c xs)(hg:w.grownBy w' (Value.slice bo m d).ownBlock)(ha:yJ (.slice bo m d) (.slice ao n c)):Own e k B w' ao n c xs:=by
 refine⟨h.1.kept hg ?_,h.2⟩;cases y:(Value.slice bo m d).ownBlock with
 | none =>
  cases G:(Value.slice ao n c).ownBlock with
  | none=>exact Or.inl rfl
  | some g=>exact Or.inr (by simp)
 | some g=>exact Or.inr (ha g y)
theorem Own.others(h:Own 144 k B w ao n c xs)(ho:Lib.OthersKept 5 none w w'):Own 144 k B w' ao n c xs:=by
 refine⟨⟨h.1.1,?_⟩,h.2⟩;rcases h.1.2 with h1|⟨g,cap,cur,hv,hg,hh,rest⟩
 . exact Or.inl h1
 . exact Or.inr ⟨g,cap,cur,hv,hg,ho g _ hh (by simp) (λc m e=>by injection e with _ e2;exact absurd e2 (by decide)),rest⟩
theorem Own.lt{e:TypeId}(h:Own e k B w ao n c xs):∀g,(Value.slice ao n c).ownBlock=some g->B<=g/\g<w.heap.size:=h.1.lt
theorem Head.block{ao':Option Addr}{n' c':Nat}(n:Nat)(h:Head ao c ao' n' c'):∀g,(Value.slice ao' n' c').ownBlock=some g->(Value.slice ao n c).ownBlock=some g:=by
 intro g m;rcases h with ⟨rfl,rfl,rfl⟩|⟨rfl,rfl⟩
 . simp[Value.ownBlock] at m
 . cases ao' with
   | none=>simp[Value.ownBlock] at m
   | some a=>simpa[Value.ownBlock] using m
theorem Ys(ao:Option Addr)(n c:Nat)(xs:List Int)(w:World)(h:Lst .u32 w ao n c xs)(hn:n<=1073741824)(htab:Tab w) :
    Calls Tryz.prog 147 #[.slice ao n c] w λe w'=>e=.returned (.string ⟨(Lib.decDigits (val xs)).toArray⟩)/\Below w.heap.size w w':=by
 obtain⟨i0,hi,h5,h9,h4⟩:=info_parts Zf;obtain⟨N,HN⟩:=jx2 (val xs);rw[<- HN.o];have d3:N<4294967296 ^ n:=by
  have:=xI h.ok
  rwa [h.len,<- HN.o] at this
 have d2:=jA d3;clear d3;have d8:=Zg ao n c xs w h hn;rw[<- HN.o] at d8;have h2:=jA d8;clear d8;go_in;go_wp2_with fail;refine h2.o.mono ?_;rintro e w1 ⟨a1,n1,c1,j1,rfl,o1,g3⟩;have f9:=o1.len;have G:=wk (m:=N);rw[f9] at G;clear f9;by_cases a8:N=0
 . have f7:n1=0:=G.2 a8;subst a8;subst f7;clear G;go_wp2_with fail;go_ret;refine⟨?_,g3⟩;(have e:Lib.decDigits 0=[48]:=by rw[Lib.decDigits_one (by omega)];rfl);rw[e];rfl
 . have f7:0<n1:=by
    rcases Nat.eq_zero_or_pos n1 with J|J
    . exact absurd (G.1 J) a8
    . exact J
   clear G;(have j2:((n1:Int) == 0)=false:=by simp;omega);have i9:=jA a8;clear a8;(have e7:Own 144 .u32 w.heap.size w1 a1 n1 c1 (qL (kD N 0)):=by rw[gB];exact o1);have e1:Own 144 .u32 w.heap.size w1 none 0 0 (chL N 0):=by
    have e0:chL N 0=[]:=rfl;rw[e0];exact⟨World.ownsRow_nil _ _ _ _,λ_ hx=>by cases hx⟩
   go_wp2_with fail;go_loopw [3,4] (λs3 s4 wr=>∃ (k:Nat) (a:Option Addr) (m d:Nat) (ac:Option Addr) (cc:Nat),s3=.slice a m d/\s4=.slice ac k cc/\k<=2*n+1/\m<=n/\Own 144 .u32 w.heap.size wr a m d (qL (kD N k))/\Own 144 .u32 w.heap.size wr ac k cc (chL N k)/\yJ (.slice a m d) (.slice ac k cc)/\(k=0\/kD N (k-1)≠0)/\Below w.heap.size w wr)
     (λ_ s4 _=>2*n+1-MU s4)
   (case atStart=>exact⟨0,a1,n1,c1,none,0,rfl,rfl,by omega,j1,e7,e1,λg _ hg=>(by cases hg),Or.inl rfl,g3⟩);case round =>
    obtain⟨k,a,m,d,ac,cc,rfl,rfl,hk,hm,ho,hc,b3,d6,hb⟩:=hrel;have f2:=ho.len;have G:=wk (m:=kD N k);rw[f2] at G;clear f2;have j3:=ho.lst.cap;have k0:=ho.lst.room;by_cases hq:kD N k=0
    . -- all chunks are there
      have f3:m=0:=G.2 hq;subst f3;clear G;have i6:0<k:=by
       rcases Nat.eq_zero_or_pos k with J|J
       . subst J;rw[gB] at hq;exact absurd hq i9.o
       . exact J
      have g0:kD N (k-1)≠0:=by
       rcases d6 with J|J
       . omega
       . exact J
      have k1:=hc.lst.room;have h7:=hc.lst.cap;have f4:=Pk hc.lst (k-1) (by omega);rw[show((k-1:Nat):Int)=(k:Int)-1 from by omega] at f4;have d0:vz N (k-1)=kD N (k-1):=by
       have:=wP N (k-1);rw[show k-1+1=k by omega,hq] at this;unfold vz;omega
      have d9:=hc.lst.cell (k-1) (by omega);rw[V8 N k (k-1) (by omega)] at d9;obtain⟨x,hx⟩:=jx2 (vz N (k-1));have d7:=wQ N (k-1);rw[<- hx.o] at d9 d7;have f5:=jA d0;have HQ:=jA hq;have i4:=jA g0;clear d0 hq g0 d6 b3 ho e7 e1;have b4:OwnB w.heap.size wr (.slice none 0 0) []:=World.ownsRow_nil _ _ _ _;have g9:=jA (XR w.heap.size (.slice none 0 0) [] x wr b4 hb.size (by simp) (by omega) (htab.below hb));clear b4;go_wp2_with fail;refine g9.o.mono ?_;rintro e w2 ⟨v2,rfl,f8,a7,c6⟩;have a5:Own 144 .u32 w.heap.size w2 ac k cc (chL N k):=hc.others c6;have g4:OwnB w.heap.size w2 v2 (Lib.decDigits (kD N (k-1))):=by
       rw[<- f5.o,<- hx.o];simpa using f8
      have i8:=hb.trans a7;clear f8 a7 c6 hc d9 f4 g9;go_wp2_with fail;go_loopw [6,7] (λs6 i wr=>∃ (j:Nat) (v:Value),s6=v/\i=.int .i64 ((j:Int)-1)/\j<k/\OwnB w.heap.size wr v (Lib.decDigits (kD N j))/\Own 144 .u32 w.heap.size wr ac k cc (chL N k)/\Below w.heap.size w wr)
        (λ_ i _=>(intOf i+1).toNat)
      (case atStart=>exact⟨k-1,v2,rfl,by go_num,by omega,g4,a5,i8⟩);case round =>
       obtain⟨j,v,rfl,rfl,hj,e5,e6,e3⟩:=hrel;by_cases j5:0<j
       . have e9:=Pk e6.lst (j-1) (by omega);rw[show((j-1:Nat):Int)=(j:Int)-1 from by omega] at e9;have H:=e6.lst.cell (j-1) (by omega);rw[V8 N k (j-1) (by omega)] at H;obtain⟨y,hy⟩:=jx2 (vz N (j-1));have h3:=wQ N (j-1);rw[<- hy.o] at H h3;have g1:kD N (j-1+1)≠0:=by
          rw[show j-1+1=j by omega];intro J;exact i4.o (Yq J (by omega))
         have b1:Lib.decDigits (kD N (j-1))=Lib.decDigits (kD N j)++vg y 9:=by
          have:=Zi g1
          rwa [show j-1+1=j by omega,<- hy.o] at this
         have b5:(Lib.decDigits (kD N j)).length<=1099511627776:=by
          have:=GK (Nat.lt_of_le_of_lt (Da N j) d2.o);omega
         have e2:=jA b1;have f0:=jA (Je w.heap.size u6 (Lib.decDigits (kD N j)) y wr e5 e3.size b5 (by omega));clear b1 g1 b5;go_wp2_with fail;refine f0.o.mono ?_;rintro e w3 ⟨v3,rfl,g2,V,b6⟩;have i3:=e6.others b6;have g7:=e3.trans V;rw[<- e2.o] at g2;clear b6 V H e9 f0;go_wp2_with fail;go_roundw;(case rel=>exact⟨j-1,v3,rfl,by go_num,by omega,g2,i3,g7⟩);case measure=>simp[intOf];omega
       . (obtain rfl:j=0:=by omega);rw[gB] at e5;have h8:=e5.string;go_wp2_with fail;go_ret;exact⟨rfl,e3⟩
    . -- one chunk more
      have j4:=XQ d2.o hq;have f3:0<m:=by
       rcases Nat.eq_zero_or_pos m with J|J
       . exact absurd (G.1 J) hq
       . exact J
      have hw:=jA (ho.lt);have b2:=uv w.heap.size a m d (qL (kD N k)) 1000000000 wr ho (by omega) (by omega);rw[qP] at b2;obtain⟨x,hx⟩:=jx2 (vz N k);have d7:=wQ N k;rw[show kD N k % 1000000000=x from hx.o.symm,wP,show((1000000000:Nat):Int)=1000000000 from rfl] at b2;rw[<- hx.o] at d7;have h1:=jA b2;have HQ:=jA hq;clear b2 hq G d6 e7 e1;go_wp2_with fail;refine h1.o.mono ?_;rintro e w2 ⟨ys,rfl,oy,d1,d5⟩;have a5:=hc.apartKept d5 b3;have a7:Below w.heap.size w w2:=hb.grown d5 hb.size (λg hg=>(hw.o g hg).1);(have b9:∀g,(Value.slice a m d).ownBlock=some g->g<w2.heap.size:=λg hg=>(oy.lt g hg).2);(have H:∀g,(Value.slice ac k cc).ownBlock=some g->w.heap.size<=g:=λg hg=>(a5.lt g hg).1);have j0:=jA b9;have h6:=jA H;have f1:=jA b3;have f6:=jA d1;have HC:=jA (World.ownsRow.alloc a5.1 (.cells #[Value.int .u32 x] 144));have HW:=jA a5.2;have e4:=jA oy;have i7:=jA a7;have g5:=a7.size;clear d5 b9 H b3 d1 a5 oy hc ho hw hb a7 h1;go_wp2_with (at_builtin;refine wpList_append_own_at _ rfl _ _ 29 rfl w.heap.size 144 i0 (.int .u32 0) 1 4 Tryz.underlying29 hi h5 h9 h4 rfl (by decide) _ _ _ rfl HC.o ⟨w2.heap.size,0,none⟩ 1 1 [.int .u32 x] rfl rfl ?c1 ?c2 ?c3 ?c4 ?c5 ?_);case c1 =>
       intro j u hj
       match j,hj with
       | 0,hj=>simp at hj;subst hj;simp[Addr.add]
      (case c2=>intro u hu;simp at hu;subst hu;rfl);(case c3=>unfold maxLen;omega);(case c4=>omega);(case c5=>simp;omega);intro v2 w3 a9 b0 _ c8;have i2:∃a3 a2,v2=.slice a3 (k+1) a2:=by
       rcases a9.2 with ⟨_,J⟩|⟨g,cap,_,hv,_⟩
       . omega
       . exact⟨_,cap,hv⟩
      obtain⟨a3,a2,rfl⟩:=i2;have i1:Own 144 .u32 w.heap.size w3 a3 (k+1) a2 (chL N (k+1)):=by
       refine⟨?_,λy hy=>?_⟩
       . rw[D8,List.map_append,<- hx.o];exact a9
       . have:=GI N (k+1) y hy;exact xL this.1 (by omega)
      have b7:yJ (.slice a m d) (.slice a3 (k+1) a2):=by
       intro g hg a0;rcases c8 with V|V
       . rw[V] at a0;exact f1.o g hg a0
       . rw[V] at a0;have:=j0.o g hg;simp at a0;omega
      have a6:Own 144 .u32 w.heap.size w3 a m d ys:=by
       have i5:Own 144 .u32 w.heap.size (w2.alloc (.cells #[Value.int .u32 x] 144)) a m d ys:=⟨World.ownsRow.alloc e4.o.1 _,e4.o.2⟩;exact i5.apartKept b0 (λg hg a0=>f1.o g a0 hg)
      have V:Below w.heap.size w w3:=(i7.o.alloc g5 _).grown b0 (by simp;omega) h6.o;(have c7:qL (val ys)=qL (kD N (k+1)):=by rw[f6.o]);have g8:=jA c7;clear a9 b0 c8 HC e4 c7;go_wp2_with fail;refine(xC _ _ _ ys _ a6.lst).mono ?_;rintro e w' ⟨rfl,a4,m4,d4,rfl,t4,e8⟩;have Z:=t4.len;have b8:=zA a6.lst.ok;rw[Z,a6.len] at b8;have o4:Own 144 .u32 w.heap.size w3 a4 m4 d4 (qL (kD N (k+1))):=by
       rw[<- g8.o,xq a6.lst.ok,Z];exact a6.head e8 b8
      (have g6:yJ (.slice a4 m4 d4) (.slice a3 (k+1) a2):=λg hg=>b7 g (e8.block m g hg));clear Z t4 e8 b7 a6;go_wp2_with fail;go_roundw;(case rel=>exact⟨k+1,a4,m4,d4,a3,a2,rfl,rfl,by omega,by omega,o4,i1,g6,Or.inr HQ.o,V⟩);case measure=>simp[MU];omega
end Go.Proofs.YtkefajjcpcoajaaGreatDoor.Q
namespace Go.Proofs.YtkefajjcpcoajaaGreatDoor
open Go.RowKit Lx
def QP:List Value:=zr.flatMap λr=>[.string (stg r.kind),.int .i64 r.most,.bool r.named]
def gC:List Value:=zf.flatMap λr=>[.string (stg r.kind),.string (stg r.key),.int .i64 r.form,.int .i64 r.least,.int .i64 r.most]
structure Tabs (w:World):Prop where
 pow:Q.Tab w
 err : ∃ tp p, w.var? Tryz.prog "strconv.ErrSyntax" = some #[.iface tp p]
 blk:∃t fr,w.heap[0]? = some (.cells QP.toArray t fr)
 fld:∃t fr,w.heap[1]? = some (.cells gC.toArray t fr)
theorem Tabs.below{w w':World}(h:Tabs w)(hb:Below w.heap.size w w'):Tabs w':=by
 have G:∀ {g:Nat} {o:Obj},w.heap[g]? = some o->g<w.heap.size:=λh=>(Array.getElem?_eq_some_iff.1 h).1
 refine⟨Q.Tab.below h.pow hb,?_,?_,?_⟩
 . obtain⟨tp,p,m⟩:=h.err;refine⟨tp,p,?_⟩;unfold World.var? at m |-;cases H : Tryz.prog.globalNamed "strconv.ErrSyntax" with
   | none=>rw[H] at m;cases m
   | some g =>
    rw[H] at m;simp only[Option.bind_some] at m |-;have y:g<w.heap.size:=by
     rcases Nat.lt_or_ge g w.heap.size with h1|h1
     . exact h1
     . rw[Array.getElem?_eq_none h1] at m;cases m
    rw[hb.block g y];exact m
 . obtain⟨t,fr,m⟩:=h.blk;exact⟨t,fr,(hb.block _ (G m)).trans m⟩
 . obtain⟨t,fr,m⟩:=h.fld;exact⟨t,fr,(hb.block _ (G m)).trans m⟩
theorem kQ(w:World)(vs:List (List UInt8))(h0:0<vs.length)(h1:vs.length<=100):∃V,w.alloc (.cells (vs.map λv=>Value.string (stg v)).toArray 9)=V/\StrL (qS w.heap.size [9]) V (some ⟨w.heap.size,0,none⟩) vs.length vs.length vs/\Below w.heap.size w V:=by
 refine⟨_,rfl,?_,(Below.refl _ _).alloc (Nat.le_refl _) _⟩;have m:=World.ownsRow_lit (e:=9) (base:=w.heap.size) (size:=1) w (vs.map λv=>Value.string (stg v)).toArray vs.length (Nat.le_refl _) (by unfold maxLen;omega) (by simp);have:=Row.own m (by decide);simpa[StrL] using this
theorem WF(k:List UInt8)(w:World) :
    Calls Tryz.prog 197 #[.string (stg k)] w λe w'=>∃ao n c,e=.returned (.slice ao n c)/\StrL qU w' ao n c (jP k)/\Below w.heap.size w w':=by
 by_cases Z:k=zG
 . subst Z;obtain⟨V,y,SL,m⟩:=kQ w [[],MN,Wn,QH] (by decide) (by decide);have e2:w.alloc (.cells #[.string ⟨#[]⟩,.string ⟨#[105,114,118]⟩,.string ⟨#[109,101,101,107]⟩,.string ⟨#[103,114,101,103,111,114,121]⟩] 9)=V:=y;have H:=jA (Row.mono SL (T:=qU) (λ_ _=>trivial));have G:=jA m;clear SL m y;have b1:((stg zG).toList == [109,101,116,104,111,100])=true:=j9 zG;go_in;go_wp2_with fail;go_ret;exact⟨_,_,_,rfl,H.o,G.o⟩
 have b1:((stg k).toList == [109,101,116,104,111,100])=false:=jh Z;by_cases h2:k=xO
 . subst h2;obtain⟨V,y,SL,m⟩:=kQ w [[],uf,wh,MP] (by decide) (by decide);have e2:w.alloc (.cells #[.string ⟨#[]⟩,.string ⟨#[98,97,99,107,119,97,114,100,115]⟩,.string ⟨#[102,111,114,119,97,114,100,115]⟩,.string ⟨#[108,111,116]⟩] 9)=V:=y;have H:=jA (Row.mono SL (T:=qU) (λ_ _=>trivial));have G:=jA m;clear SL m y;have b2:((stg xO).toList == [116,105,101,115])=true:=j9 xO;go_in;go_wp2_with fail;go_ret;exact⟨_,_,_,rfl,H.o,G.o⟩
 have b2:((stg k).toList == [116,105,101,115])=false:=jh h2;by_cases J:k=zj
 . subst J;obtain⟨V,y,SL,m⟩:=kQ w [[],ZF,kX] (by decide) (by decide);have e2:w.alloc (.cells #[.string ⟨#[]⟩,.string ⟨#[115,116,111,112]⟩,.string ⟨#[115,107,105,112]⟩] 9)=V:=y;have H:=jA (Row.mono SL (T:=qU) (λ_ _=>trivial));have G:=jA m;clear SL m y;have b3:((stg zj).toList == [111,118,101,114,118,111,116,101])=true:=j9 zj;go_in;go_wp2_with fail;go_ret;exact⟨_,_,_,rfl,H.o,G.o⟩
 have b3:((stg k).toList == [111,118,101,114,118,111,116,101])=false:=jh J;by_cases h4:k=kX
 . subst h4;obtain⟨V,y,SL,m⟩:=kQ w [[],VP,ZF,MQ] (by decide) (by decide);have e2:w.alloc (.cells #[.string ⟨#[]⟩,.string ⟨#[99,108,111,115,101]⟩,.string ⟨#[115,116,111,112]⟩,.string ⟨#[116,119,111]⟩] 9)=V:=y;have H:=jA (Row.mono SL (T:=qU) (λ_ _=>trivial));have G:=jA m;clear SL m y;have b4:((stg kX).toList == [115,107,105,112])=true:=j9 kX;go_in;go_wp2_with fail;go_ret;exact⟨_,_,_,rfl,H.o,G.o⟩
 have b4:((stg k).toList == [115,107,105,112])=false:=jh h4;have hw:Hid (jP k=[]):=by show _=_;unfold jP;rw[if_neg Z,if_neg h2,if_neg J,if_neg h4]
 obtain⟨K,hK⟩:=jx1 (stg k);rw[hK.o] at b1 b2 b3 b4 |-;clear Z h2 J h4;go_in;go_wp2_with fail;go_ret;exact⟨none,0,0,rfl,by rw[hw.o];exact Row.nil _ _ _,Below.refl _ _⟩
theorem V9(k v:List UInt8)(w:World) :
    Calls Tryz.prog 177 #[.string (stg k),.string (stg v)] w λe w'=>e=.returned (.int .i64 (xP k v))/\Below w.heap.size w w':=by
 have H:=jA (WF k w);have J:=MS (jP k) v;have m:=jA (Bl (jP k) v);have Z:=DJ k v;obtain⟨K,hK⟩:=jx1 (stg k);obtain⟨V,hV⟩:∃K,Hid (stg v=K):=⟨_,rfl⟩;rw[hK.o] at H;rw[hK.o,hV.o];obtain⟨R,hR⟩:=jx1 (jV (jP k) v);rw[hR.o] at J m;obtain⟨C,hC⟩:=jx1 (xP k v);rw[hC.o] at Z |-;have hm:Hid (max 0 R=(C:Int)):=by show _=_;rw[m.o,<- hC.o];rfl
 have a0:R<=3:=by have:=hm.o;omega
 clear m;go_in;go_wp2_with fail;refine H.o.mono ?_;rintro e w1 ⟨ao,n,c,rfl,SL,G⟩;have y:=J9 (jP k) v ao n c w1 SL;rw[hV.o,hR.o] at y;replace y:=jA y;replace G:=jA G;clear SL H;go_wp2_with fail;refine y.o.mono ?_;rintro e w2 ⟨rfl,rfl⟩;clear y;go_wp2_with fail;go_ret;exact⟨by rw[<- hm.o];rfl,G.o⟩
theorem Zj(v:List UInt8)(m:Nat)(w:World)(hm:m<=1000) :
    Calls Tryz.prog 59 #[.string (stg v),.int .i64 (m:Int)] w λe w'=>e=.returned (.bool (jw v m))/\Below w.heap.size w w':=by
 have J:(stg v).size=v.length:=by rw[<- zR,zL]
 by_cases h:v.length<=m
 . have y:=MM (stg v) w (by omega);rw[zL] at y;have H:jw v m=(VO v).2:=by
    unfold jw VO;rw[decide_eq_true h,Bool.true_and];cases hv:v.all z8<;>simp
   rw[H];obtain⟨R,G⟩:=jx1 ((VO v).2);obtain⟨T,hT⟩:∃R,Hid ((VO v).1=R):=⟨_,rfl⟩;rw[G.o,hT.o] at y;rw[G.o];obtain⟨K,hK⟩:=jx1 (stg v);rw[hK.o] at y J |-;(have V:K.size<=m:=by omega);have b1:decide (m<K.size)=false:=decide_eq_false (by omega);have b2:decide ((m:Int)<(K.size:Int))=false:=decide_eq_false (by omega);replace y:=jA y;clear h H J;go_in;go_wp2_with fail;refine y.o.mono ?_;rintro e w1 ⟨rfl,Z⟩;replace Z:=jA Z;clear y;go_wp2_with fail;go_ret;exact⟨rfl,Z.o⟩
 . have H:jw v m=false:=by
    unfold jw;rw[decide_eq_false h,Bool.false_and]
   rw[H];obtain⟨K,hK⟩:=jx1 (stg v);rw[hK.o] at J |-;have b1:decide (m<K.size)=true:=decide_eq_true (by omega);have b2:decide ((m:Int)<(K.size:Int))=true:=decide_eq_true (by omega);(have V:m<K.size:=by omega);clear h H J;go_in;go_wp2_with fail;go_ret;exact⟨rfl,Below.refl _ _⟩
theorem Db(v:List UInt8)(w:World) :
    Calls Tryz.prog 217 #[.string (stg v)] w λe w'=>e=.returned (.bool (xz v))/\Below w.heap.size w w':=by
 have G:=jA (Zj v 24 w (by omega));by_cases h:v=[]
 . subst h;clear G;(have t0:(stg []).toList=[]:=by rw[ByteArray.toList_eq];rfl);(have t1:(stg []).toList.isEmpty=true:=by rw[t0];rfl);go_in;go_wp2_with fail;go_ret;exact⟨rfl,Below.refl _ _⟩
 . (have m:(stg v).toList≠[]:=by rw[ByteArray.toList_eq];exact h);(have H:(stg v).toList.isEmpty=false:=by rw[List.isEmpty_eq_false_iff];exact m);have V:xz v=jw v 24:=by
    unfold xz;rw[List.isEmpty_eq_false_iff.2 h];rfl
   rw[V];obtain⟨R,y⟩:=jx1 (jw v 24);obtain⟨K,Z⟩:=jx1 (stg v);rw[y.o,Z.o] at G;rw[y.o];rw[Z.o] at m H |-;clear h V;go_in;go_wp2_with fail;refine G.o.mono ?_;rintro e w1 ⟨rfl,J⟩;replace J:=jA J;clear G;go_wp2_with fail;go_ret;exact⟨rfl,J.o⟩
theorem Va{c:UInt8}{r:List UInt8}:∀W,(Instr.index 9 (.string (stg (c :: r))) (.int .i64 0)).run Tryz.prog W=.ok (.int .u8 (c.toNat:Int)) W:=λW=>by
 obtain⟨d,hd,x,_⟩:=Yj (stg (c :: r)) (by rw[<- zR,zL];simp);have hd:=hd.o;rw[zL] at hd;injection hd with hd _;subst hd;exact x W
theorem Dc(v:List UInt8)(w:World)(hv:v.length<=1000000) :
    Calls Tryz.prog 215 #[.string (stg v)] w λe w'=>e=.returned (.bool (zv v))/\Below w.heap.size w w':=by
 have m:=UF (stg v) w (by rw[<- zR,zL];exact hv);rw[zL] at m;have y:=MT v;cases G:xF v;rw[G] at y m;rw[y,Bool.false_and];replace m:=jA m;obtain⟨K,H⟩:=jx1 (stg v);rw[H.o] at m |-;clear y G hv
 rotate_left
 obtain⟨c,r,rfl⟩:=J8 G;rw[G] at y m;rw[y,Bool.true_and];have V:=Va (c:=c) (r:=r);obtain⟨K,H⟩:=jx1 (stg (c :: r));rw[H.o] at m V |-;replace m:=jA m;have hc:c.toNat<256:=c.toNat_lt;obtain⟨z,Z⟩:=jx1 (c.toNat);rw[Z.o] at V hc;have J:Hid (geA (c :: r)=decide ((97:Int)<=(z:Int))):=by
  show decide (97<=c.toNat)=_;rw[Z.o,Bool.eq_iff_iff,decide_eq_true_eq,decide_eq_true_eq];omega
 rw[J.o];clear y G hv J
 rotate_left
 all_goals
   go_in;go_wp2_with fail;refine m.o.mono ?_;rintro e w1 ⟨rfl,q,rfl⟩;clear m;go_wp2_with fail;go_ret;exact⟨rfl,below_drewN (Below.refl _ _) _⟩
end Go.Proofs.YtkefajjcpcoajaaGreatDoor
namespace Go.Proofs.YtkefajjcpcoajaaGreatDoor.Q
open Go.RowKit NatMath
theorem Dd(ao bo:Option Addr)(n c m d:Nat)(xs ys:List Int)(w:World)(h:Lst .u32 w ao n c xs)(k:Lst .u32 w bo m d ys)(hlt:val xs<val ys) :
    Calls Tryz.prog 162 #[.slice ao n c,.slice bo m d] w λe w'=>e=.returned (.tuple #[.slice none 0 0,.bool false])/\∃q,w.drewN q=w':=by
 have y:jq (val xs) (val ys)=-1:=by unfold jq;rw[if_pos (by omega)]
 have G:=jA y;clear y;go_in;go_wp2_with fail;refine(Ze _ _ _ _ _ _ xs ys _ h k).mono ?_;rintro e w' ⟨rfl,q,rfl⟩;rw[G.o];go_wp2_with fail;go_ret2;exact⟨rfl,q,rfl⟩
theorem De(ao bo:Option Addr)(n c m d:Nat)(xs ys:List Int)(w:World)(h:Lst .u32 w ao n c xs)(k:Lst .u32 w bo m d ys)(hn:n<=1073741824)(hge:val ys<=val xs) :
    Calls Tryz.prog 162 #[.slice ao n c,.slice bo m d] w λe w'=>∃ao' n' c',n'<=n/\e=.returned (.tuple #[.slice ao' n' c',.bool true])/\Own 144 .u32 w.heap.size w' ao' n' c' (qL (val xs-val ys))/\Below w.heap.size w w':=by
 have hc:0<=jq (val xs) (val ys):=by unfold jq;rw[if_neg (by omega)];split<;>omega
 obtain⟨g,hg⟩:=jx2 (jq (val xs) (val ys));rw[<- hg.o] at hc;go_in;go_wp2_with fail;refine(Ze _ _ _ _ _ _ xs ys _ h k).mono ?_;rintro e w' ⟨rfl,q,rfl⟩;rw[<- hg.o];go_wp2_with fail;refine(Zg _ _ _ xs _ (h.drewN q) hn).mono ?_;rintro e w1 ⟨a1,n1,c1,e8,rfl,o1,b3⟩;go_wp2_with fail;refine(xC _ _ _ ys _ ((k.drewN q).below b3)).mono ?_;rintro e w' ⟨rfl,b1,m1,d1,rfl,k1,kh⟩;have b9:m1<=m:=by
  have:=zA k.ok;rw[k1.len,k.len] at this;exact this
 have c6:∀i,i<m1->(pt b1 i).block<w.heap.size:=(k.head kh b9).block;clear kh;have e1:Below w.heap.size w w1:=by have:=b3;simp only[World.heap_drewN] at this;exact(below_drewN (Below.refl _ _) q).trans this
 have a4:Own 144 .u32 w.heap.size w1 a1 n1 c1 (qL (val xs)):=o1;obtain⟨L,HL⟩:=jx2 (qL (val xs));obtain⟨M,HM⟩:=jx2 (qL (val ys));rw[<- HL.o] at a4;rw[<- HM.o] at k1;clear o1 b3;have H:=jA a4.len;have a0:=jA k1.len;have e0:m1<=n1:=by
  rw[<- a0.o,<- H.o,HM.o,HL.o];rcases Nat.lt_or_ge (qL (val xs)).length (qL (val ys)).length with a7|a8
  . have:=ki a7;omega
  . exact a8
 have a8:val M<=val L:=by rw[HM.o,HL.o,qP,qP];exact hge
 have a9:val L-val M=val xs-val ys:=by rw[HM.o,HL.o,qP,qP]
 have e2:=jA a8;have b5:=jA a9;clear a8 a9;have d9:=k1.cap;have c8:=k1.room;have e3:=a4.lst.cap;have d0:=a4.lst.room;have d5:=SubInv.start M a4.lst.ok;have b0:=jA k1.ok;go_wp2_with fail;go_loopw [7,20] (λs7 i wr=>∃ (j:Nat) (r:Int) (D:List Int),j<=m1/\i=.int .i64 j/\s7=.int .u32 r/\SubInv L M D r j/\Own 144 .u32 w.heap.size wr a1 n1 c1 D/\Lst .u32 wr b1 m1 d1 M/\Below w.heap.size w wr)
   (λ_ i _=>m1-(intOf i).toNat)
 case atStart=>exact⟨0,0,L,Nat.zero_le _,rfl,rfl,d5,a4,k1,e1⟩
 case round =>
  obtain⟨j,r,D,hj,rfl,rfl,a3,ho,hk,hb⟩:=hrel;have f1:=a3.r0;have e6:=a3.r1;by_cases a7:j<m1
  . have b6:=ix ho.lst j (by omega);have d3:=ix hk j a7;obtain⟨x,HX,d2,d8,c7⟩:=ho.lst.at j (by omega);obtain⟨y,HY,f0,e9,d6⟩:=hk.at j a7;have b7:=ho.frozen (i:=j) (by omega);go_wp2_with fail;(go_region_law ((go_simp;go_at_call 213;refine(WE _ _ _ _ (by omega) (by omega) (by omega) (by omega) (by omega) (by omega)).mono ?_;rintro e w' ⟨rfl,rfl⟩)));all_goals
      have a6:(Lit.int .u32 ((x-y-r) % 4294967296)).wf=true:=xL (by omega) (by omega);have G:=ho.base (i:=j) (by omega);have R1:=jA (a3.step b0.o (by rw[H.o];omega) HX.o HY.o (b:=brw x y r) rfl);have R2:=jA (ho.set (i:=j) (by omega) a6);have R3:=jA (hk.stored c6 G (.int .u32 ((x-y-r) % 4294967296)));have R4:=jA (hb.setCell G (.int .u32 ((x-y-r) % 4294967296)));clear b6 d3 c7 d6 b7 G a6;go_wp2_with fail;go_roundw;(case rel=>exact⟨j+1,brw x y r,_,by omega,by go_num,rfl,R1.o,R2.o,R3.o.drewN 1,R4.o.drew⟩);case measure=>simp[intOf];omega
  . (obtain rfl:j=m1:=by omega);go_wp2_with fail;go_loopw [7,9] (λs7 i wr=>∃ (j':Nat) (r:Int) (D:List Int),j<=j'/\j'<=n1/\i=.int .i64 j'/\s7=.int .u32 r/\SubInv L M D r j'/\Own 144 .u32 w.heap.size wr a1 n1 c1 D/\Below w.heap.size w wr)
      (λ_ i _=>n1-(intOf i).toNat)
    (case atStart=>exact⟨j,r,D,Nat.le_refl _,e0,rfl,rfl,a3,ho,hb⟩);case round =>
     obtain⟨j',r',D',b4,d7,rfl,rfl,J,V,b8⟩:=hrel;have e4:=J.r0;have e5:=J.r1;by_cases hz:r'=0
     . subst hz;have hv:=J.done (by rw[a0.o];exact b4);have HV:=jA hv;clear hv;go_wp2_with fail;refine(xC _ _ _ D' _ V.lst).mono ?_;rintro e w' ⟨rfl,a2,n2,c2,rfl,k2,d4⟩;go_wp2_with fail;go_ret2;have a5:=k2.len;have b2:=zA V.lst.ok;rw[a5,V.len] at b2;refine⟨a2,n2,c2,by omega,rfl,?_,b8⟩;rw[<- b5.o,<- HV.o,xq V.lst.ok,a5];exact V.head d4 b2
     . have Z:j'<n1:=by
        have:=J.more (by rw[a0.o];exact b4) e2.o (by rw[H.o];exact d7) hz
        rwa [H.o] at this
       (have e7:(r' == 0)=false:=by simpa using hz);have b6:=ix V.lst j' Z;obtain⟨x,HX,d2,d8,c7⟩:=V.lst.at j' Z;have b7:=V.frozen Z;have HY:Hid ((0:Int)=M.getD j' 0):=by
        show(0:Int)=M.getD j' 0;rw[List.getD,List.getElem?_eq_none (by rw[a0.o];exact b4)];rfl
       have a6:(Lit.int .u32 ((x-r') % 4294967296)).wf=true:=xL (by omega) (by omega);have G:=V.base Z;have r1:=J.step b0.o (by rw[H.o];exact Z) HX.o HY.o (b:=brw x 0 r') rfl;rw[Int.sub_zero] at r1;have R1:=jA r1;clear r1;have R2:=jA (V.set Z a6);have R4:=jA (b8.setCell G (.int .u32 ((x-r') % 4294967296)));clear a6 G;go_wp2_with (go_at_call 213;refine(WE _ _ _ _ (by omega) (by omega) (by omega) (by omega) (by omega) (by omega)).mono ?_;rintro e w' ⟨rfl,rfl⟩);go_roundw;(case rel=>exact⟨j'+1,brw x 0 r',_,by omega,by omega,by go_num,rfl,R1.o,R2.o,R4.o⟩);case measure=>simp[intOf];omega
