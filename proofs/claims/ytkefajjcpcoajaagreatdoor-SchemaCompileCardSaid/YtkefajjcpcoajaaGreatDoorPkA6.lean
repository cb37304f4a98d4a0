/- -/
import Derived.Test.YtkefajjcpcoajaaGreatDoorPkA0
import Derived.Deep.QuietTactic
import Derived.BigQuiet
import Derived.Deep.RegionHeld3
import Derived.Deep.CutRange
import Derived.Test.YtkefajjcpcoajaaGreatDoorPkA3
import Derived.Test.YtkefajjcpcoajaaGreatDoorPkA4
import Derived.Test.YtkefajjcpcoajaaGreatDoorPkA5
set_option linter.all false
set_option maxRecDepth 100000
set_option maxHeartbeats 3200000
namespace Go.Proofs.YtkefajjcpcoajaaGreatDoor
open Go.RowKit Lx
variable {w:World}
namespace Lx
theorem wN(l:List UInt8)(c:UInt8){z:Int}(h:z=((c.toNat:Nat):Int)):ui l++[z]=ui (l++[c]):=by simp[ui,h]
end Lx
theorem MM(s:ByteArray)(w:World)(hs:s.size<=1000000) :
    Calls Tryz.prog 110 #[.string s] w λe w'=>e=.returned (.tuple #[.string (VO (bys s)).1,.bool (VO (bys s)).2])/\Below w.heap.size w w':=by
 obtain⟨i0,hi,a9,b0,a8⟩:=info_parts WB;obtain⟨R,hR⟩:=jx1 (VO (bys s));rw[hR.o];go_in;go_wp2_with (at_make;refine wpList_make_own _ rfl _ _ 97 rfl w.heap.size 5 i0 (.int .u8 0) 1 Tryz.underlying97 hi a9 b0 _ _ _ (s.size+2) rfl rfl rfl ?b2 ?b3 (Nat.le_refl _) ?_);case b2=>rw[a8];omega
 case b3=>unfold maxLen;omega
 intro w1 a0 a4;have O1:Own 5 .u8 w.heap.size w1 (some ⟨w.heap.size,0,none⟩) 0 (s.size+2) (ui []):=⟨by simpa[ui] using a0,λx hx=>by cases hx⟩;have b1:Below w.heap.size w w1:=(Below.refl _ _).grown a4 (Nat.le_refl _) (λk hk=>by cases hk);have z1:=b1.size;have O1:=jA O1;have B1:=jA b1;clear a0 a4 b1;go_wp2_with (at_builtin;refine xG (B:=w.heap.size) O1.o z1 (by omega) (by omega) (by omega) rfl rfl ?_);intro a2 c2 w2 J b2;rw[wN (z:=34) [] 34 rfl] at J;have J:=jA J;have B2:=jA (B1.o.trans b2);clear O1 B1 z1 b2;go_wp2_with fail;go_loopw [4,15] (λv i wr=>∃ (j:Nat) (T:List UInt8) (a:Option Addr) (c:Nat),j<=s.size/\i=.int .i64 j/\v=.slice a T.length c/\T.length<=2*j+1/\Own 5 .u8 w.heap.size wr a T.length c (ui T)/\Hid (T=34 :: yq ((bys s).take j)/\((bys s).take j).all z8=true)/\Below w.heap.size w wr) (λ_ i _=>s.size-(intOf i).toNat)
 case atStart=>exact⟨0,[34],a2,c2,Nat.zero_le _,rfl,rfl,Nat.le_refl _,J.o,⟨rfl,rfl⟩,B2.o⟩
 case round =>
  clear J B2;obtain⟨j,T,a,c,hj,rfl,rfl,hT,O,hI,B⟩:=hrel;have zB:=B.size;have O:=jA O;have B:=jA B;by_cases a7:j<s.size
  . (have b4:(j:Int)<(s.size:Int):=by omega);obtain⟨d,hd,x1⟩:=ZH s j a7;have HP:=yi d wr;have HE:=Qn d wr;obtain⟨n,hn⟩:∃n:Nat,Hid (d.toNat=n):=⟨_,rfl⟩;obtain⟨p,hp⟩:=jx1 (z8 d);obtain⟨b,hb⟩:∃p,Hid (xg d=p):=⟨_,rfl⟩;rw[hn.o] at x1;rw[hn.o,hp.o] at HP;rw[hn.o,hb.o] at HE;have HP:=jA HP;have HE:=jA HE;(have Z:n<256:=by rw[<- hn.o];exact UInt8.toNat_lt d);(have g0:(0:Int)<=(n:Int):=by omega);(have g1:(n:Int)<=255:=by omega);clear Z;cases p with
    | false =>
     (have G:Hid (R=(⟨#[]⟩,false)):=by show _=_;rw[<- hR.o,ML (DE hd.o hp.o)]);go_wp2_with fail;refine HP.o.mono ?_;rintro e w' ⟨rfl,rfl⟩;go_wp2_with fail;go_ret2;exact⟨Wk G.o,B.o⟩
    | true =>
     have a5:Hid (((bys s).take (j+1)).all z8=true):=by
      show _=_;rw[ZD hd.o,List.all_append,hI.o.2];simp[hp.o]
     have V:Hid (34 :: yq ((bys s).take (j+1))=(34 :: yq ((bys s).take j))++Uw d):=by
      show _=_;rw[ZD hd.o,Yd];rfl
     cases b with
     | true =>
      have hM:Hid ((T++[92])++[d]=34 :: yq ((bys s).take (j+1))):=by
       show _=_;rw[V.o,hI.o.1,Bg hb.o,List.append_assoc];rfl
      clear hI V;go_wp2_with fail;refine HP.o.mono ?_;rintro e w' ⟨rfl,rfl⟩;go_wp2_with fail;refine HE.o.mono ?_;rintro e w' ⟨rfl,rfl⟩;go_wp2_with (at_builtin;refine xG (B:=w.heap.size) O.o zB (by omega) (by omega) (by omega) rfl rfl ?_);intro a2 c2 w2 J b2;rw[wN (z:=92) T 92 rfl] at J;have J:=jA J;have B2:=jA (B.o.trans b2);have z2:=B2.o.size;clear b2;go_wp2_with (at_builtin;refine xG (B:=w.heap.size) J.o z2 (by omega) g0 g1 rfl rfl ?_);intro a3 c3 w3 y b3;rw[uQ (T++[92]) hn.o] at y;have B3:=jA (B2.o.trans b3);have y:=jA y;clear b3;obtain⟨N,G⟩:=jx1 (T.length+1+1);(have m:Hid (N=(T++[92]++[d]).length):=by show _=_;rw[<- G.o];simp);(have a1:N<=2*(j+1)+1:=by rw[<- G.o];omega);rw[G.o] at y |-;go_wp2_with fail;go_roundw;(case rel=>exact⟨j+1,T++[92]++[d],a3,c3,by omega,by go_num,by rw[<- m.o],by rw[<- m.o];exact a1,by rw[<- m.o];exact y.o,⟨hM.o,a5.o⟩,B3.o⟩);case measure=>simp[intOf];omega
     | false =>
      have hM:Hid (T++[d]=34 :: yq ((bys s).take (j+1))):=by
       show _=_;rw[V.o,hI.o.1,MJ hb.o]
      clear hI V;go_wp2_with fail;refine HP.o.mono ?_;rintro e w' ⟨rfl,rfl⟩;go_wp2_with fail;refine HE.o.mono ?_;rintro e w' ⟨rfl,rfl⟩;go_wp2_with (at_builtin;refine xG (B:=w.heap.size) O.o zB (by omega) g0 g1 rfl rfl ?_);intro a3 c3 w3 y b3;rw[uQ T hn.o] at y;have B3:=jA (B.o.trans b3);have y:=jA y;clear b3;obtain⟨N,G⟩:=jx1 (T.length+1);(have m:Hid (N=(T++[d]).length):=by show _=_;rw[<- G.o];simp);(have a1:N<=2*(j+1)+1:=by rw[<- G.o];omega);rw[G.o] at y |-;go_wp2_with fail;go_roundw;(case rel=>exact⟨j+1,T++[d],a3,c3,by omega,by go_num,by rw[<- m.o],by rw[<- m.o];exact a1,by rw[<- m.o];exact y.o,⟨hM.o,a5.o⟩,B3.o⟩);case measure=>simp[intOf];omega
  . (obtain rfl:j=s.size:=by omega);have H:(bys s).take s.size=bys s:=List.take_of_length_le (by rw[zR];exact Nat.le_refl _);have G:Hid (R=(stg (T++[34]),true)):=by
     show _=_;have h1:=hI.o.1;have h2:=hI.o.2;rw[H] at h1 h2;rw[<- hR.o,Bh h2,h1]
    clear hI H;go_wp2_with (at_builtin;refine xG (B:=w.heap.size) O.o zB (by omega) (by omega) (by omega) rfl rfl ?_);intro a3 c3 w3 y b3;rw[wN (z:=34) T 34 rfl] at y;have a6:=Za y;rw[show VT (ui (T++[34]))=stg (T++[34]) from Zq _] at a6;have B3:=jA (B.o.trans b3);clear y b3;go_wp2_with fail;go_ret2;exact⟨Wk G.o,B3.o⟩
namespace Lx
end Lx
def ya(B:Nat):World->Nat->Prop:=λ_ k=>k<B
theorem qp(B:Nat):jR (ya B):=λ_ _ _ _ _ h=>h
theorem zN{B:Nat}{w':World}(h:Below B w w'):Keeps (ya B) w w':=λk _ hk=>h.block k hk
theorem StrL.ix'{S:World->Nat->Prop}{ao:Option Addr}{n c:Nat}{vs:List (List UInt8)}(h:StrL S w ao n c vs)(i:Nat)(hi:i<n)(W:World) :
    (Instr.indexAt 26 (.slice ao n c) (.int .i64 (i:Int))).run Tryz.prog W=.ok (.pointer (some (pt ao i))) W:=by
 have:=yQ Tryz.underlying26 (show(Tryz.prog.info? 9).map (·.size)=some 1 by kernel_rfl) h i hi W
 rwa [Nat.mul_one] at this
theorem vP(ao:Option Addr)(i k:Nat):(⟨(pt ao i).block,(pt ao i).off+(k+1),none⟩:Addr)=pt ao (i+(k+1)):=by
 have h:(pt ao i).add (k+1)=pt ao (i+(k+1)):=Addr.add_add _ _ _;rw[<- h];rfl
namespace Lx
end Lx
namespace Lx
end Lx
theorem Wm(w:World)(p:Addr)(v:Value)(hv:w.cell? p=some v):∀o:Obj,(w.alloc o).cell? p=some v:=λo=>(World.cell?_of_block (Below.heap_alloc w o p.block (World.block_lt_of_cell? w _ hv))).trans hv
theorem Mh(w:World)(p:Addr)(v:Value)(hv:w.cell? p=some v):∀o o':Obj,((w.alloc o).alloc o').cell? p=some v:=λo o'=>Wm _ p v (Wm w p v hv o) o'
theorem ZX(w:World)(T:TypeId)(cs ds:List Value):∃W,((w.alloc (.cells cs.toArray T)).alloc (.cells ds.toArray T)).drew=W/\Arr W w.heap.size T cs/\Arr W (w.heap.size+1) T ds/\Below w.heap.size w W/\W.heap.size=w.heap.size+2:=by
 obtain⟨V,e1,J,G,H⟩:=qG w T cs;obtain⟨U,Z,y,m,z2⟩:=qG V T ds;rw[e1,Z];rw[H] at y;exact⟨U.drew,rfl,(J.kept m).drew,y.drew,(G.trans (m.mono G.size)).drew,by show U.heap.size=_;omega⟩
section
variable {P : Program} {md : Region.Mode} {l : List Oper} {Q : Exit -> Act -> World -> Prop} {S : World -> Prop}
theorem js{i:Nat}{oi:Oper}{v:Value}{fuel:Nat}{listed:Array Bool}{a:Act}(hi:l[i]? = some oi)
    (hs:Region.noSelect l.toArray=true) (hf:Region.free md l.toArray listed i=true) (hr:(Region.ready md l.toArray listed).contains i=true)
    (hQ:∀c a w,Q (.panic c) (a.put oi.dst v) w->Q (.panic c) a w) (hwant:Region.wanted oi (yielded l.toArray a.tmps)=true) (hS:S w) (hy:∀w,S w->(execOp a.eval oi).run P w=.ok (.value v) w)
    (h:wpAnyH P md l.toArray Q S fuel (listed.setIfInBounds i true) (a.put oi.dst v) w):wpAnyH P md l.toArray Q S (fuel+1) listed a w :=
 wpAnyH_take (by simpa using hi) hs hf hr hQ (Or.inl ⟨hwant,hy⟩) hS h
theorem vr{fuel:Nat}{listed:Array Bool}{a:Act}{i:Nat}{o:Oper}{rs:List Nat}(ho:l[i]? = some o)(hwant:Region.wanted o (yielded l.toArray a.tmps)=true)
    (h:∀K:Act->World->Prop,Shut (∀a w,S w->(S w->wpAnyH P md l.toArray Q S fuel (listed.setIfInBounds i true) a w)->K a w)->Oper.wp P o a w K Q)
    (hs:AllReadyH P md l.toArray Q S fuel listed a w rs):AllReadyH P md l.toArray Q S fuel listed a w (i :: rs) :=
 AllReadyH.cons (by simpa using ho) (λK hK=>by rw[if_pos hwant];exact h K hK) hs
end
theorem Bi:(Tryz.prog.info? 9).map (λi=>(i.zero,i.size,i.bytes))=some (some (.string ⟨#[]⟩),1,16):=by kernel_rfl
theorem DF{T E:TypeId}{s bytes:Nat}{z:Value}(ht:Tryz.prog.underlying T=some (.slice E))(hinfo:(Tryz.prog.info? E).map (λi=>(i.zero,i.size,i.bytes))=some (some z,s,bytes))(hzs:z.cells.size=s)(hs:0<s)(hby:bytes<=64)
    {ops:Array Oper} {o:Oper} {a:Act} {w X:World} {K:Act->World->Prop} {Q:Exit->Act->World->Prop} {E2:Prop} (p q:Operand) (hgd:o.guard=none) (hop:o.op=.call { callee:=.builtin .append,args:=#[p,q],argTypes:=#[T,T] })
    {B:Nat} {ao:Option Addr} {n c:Nat} {us vs:List Value} (hX:w.alloc (.cells vs.toArray E)=X) (hO:w.ownsRow B E s (.slice ao n c) n us) (hB:B<=w.heap.size) (hn:n<=1048576) (hv:vs.length=s) (h1:∀u∈vs,u.oneCell'=true)
    (hp:a.eval p=.slice ao n c) (hq:a.eval q=.slice (some ⟨w.heap.size,0,none⟩) 1 1)
    (h:∀ao' c' w',w'.ownsRow B E s (.slice ao' (n+1) c') (n+1) (us++vs)->w.grownBy w' (Value.slice ao n c).ownBlock->Below B w w'->K (a.put o.dst (.slice ao' (n+1) c')) w') :
    if Region.wanted o (yielded ops a.tmps)=true then Oper.wp Tryz.prog o a X K Q else E2:=by
 have hw:Region.wanted o (yielded ops a.tmps)=true:=by simp[Region.wanted,hgd]
 rw[if_pos hw];subst hX;obtain⟨i0,hi,Z,J,V⟩:=info_parts hinfo;have m:Below w.heap.size w (w.alloc (.cells vs.toArray E)):=(Below.refl _ _).alloc (Nat.le_refl _) _;have g1:w.grownBy (w.alloc (.cells vs.toArray E)) (Value.slice ao n c).ownBlock:=⟨m.os,m.tape,m.output,m.size,λk H _=>m.block k H⟩;have y:Arr (w.alloc (.cells vs.toArray E)) w.heap.size E vs:=Arr.new w _ vs;have a0:=qQ hO m;have a1:(n+1)*bytes<=(1048576+1)*64:=Nat.mul_le_mul (by omega) hby;refine wp_append_own _ p q T hop B E i0 z s bytes ht hi Z J V hzs hs _ n _ hp a0 ⟨w.heap.size,0,none⟩ 1 1 vs hq (by omega) ?_ h1 (by unfold maxLen;omega) (by omega) (by simp;omega) ?_
 . intro j u hj;have e:=jm w.heap.size j;simp only[pt,Option.getD_some] at e;rw[e,y.cell];exact hj
 . intro v' w' G hg _;obtain⟨av,cv,hv⟩:∃ao c,v'=.slice ao (n+1) c:=by
    rcases G.2 with ⟨hv,h0⟩|⟨g,cap,_,hv,_⟩
    . omega
    . exact⟨_,cap,hv⟩
   subst hv;exact h av cv w' G (qC g1 hg) ((m.mono hB).trans ((Below.refl _ _).grown hg (by simp;omega) (λk H=>(World.ownsRow.lt hO k H).1)))
theorem XE{T E:TypeId}{s bytes:Nat}{z:Value}(ht:Tryz.prog.underlying T=some (.slice E))(hinfo:(Tryz.prog.info? E).map (λi=>(i.zero,i.size,i.bytes))=some (some z,s,bytes))(hzs:z.cells.size=s)(hs:0<s)(hby:bytes<=64)
    {o:Oper} {a:Act} {w X:World} {K:Act->World->Prop} {Q:Exit->Act->World->Prop} (p q:Operand) (hgd:o.guard=none) (hop:o.op=.call { callee:=.builtin .append,args:=#[p,q],argTypes:=#[T,T] })
    {B:Nat} {ao:Option Addr} {n c:Nat} {us vs:List Value} (hX:w.alloc (.cells vs.toArray E)=X) (hO:w.ownsRow B E s (.slice ao n c) n us) (hB:B<=w.heap.size) (hn:n<=1048576) (hv:vs.length=s) (h1:∀u∈vs,u.oneCell'=true)
    (hp:a.eval p=.slice ao n c) (hq:a.eval q=.slice (some ⟨w.heap.size,0,none⟩) 1 1)
    (h:∀ao' c' w',w'.ownsRow B E s (.slice ao' (n+1) c') (n+1) (us++vs)->w.grownBy w' (Value.slice ao n c).ownBlock->Below B w w'->K (a.put o.dst (.slice ao' (n+1) c')) w') :
    Oper.wp Tryz.prog o a X K Q:=by
 have m:Region.wanted o (yielded #[] a.tmps)=true:=by simp[Region.wanted,hgd]
 have:=DF (ops:=#[]) (E2:=True) (Q:=Q) ht hinfo hzs hs hby p q hgd hop hX hO hB hn hv h1 hp hq h
 rwa [if_pos m] at this
namespace Lx
theorem wg{α β:Type}(f:α->β){l:List α}{j:Nat}{a:α}(h:l[j]? = some a):(l.take (j+1)).map f=(l.take j).map f++[f a]:=by
 rw[List.take_add_one,h,List.map_append];rfl
theorem QF{α:Type}{l:List α}{j n k:Nat}(hn:l.length=n)(h1:j<=n)(h2:j<=k)(h3:n<=j\/k<=j):l.take j=l.take k:=by
 rcases h3 with h|h
 . rw[List.take_of_length_le (by omega),List.take_of_length_le (by omega)]
 . rw[show j=k by omega]
theorem J0{l:List UInt8}{K:ByteArray}(hK:stg l=K)(k:Nat)(kk:Int)(hk:(k:Int)=kk):∃ (m:Nat) (U:ByteArray),(if kk<(K.size:Int) then kk else (K.size:Int))=(m:Int)/\(0:Int)<=(m:Int)/\(m:Int)<=(K.size:Int)/\K.extract 0 m=U/\Hid (stg (l.take k)=U):=by
 subst hK;refine⟨min (stg l).size k,_,by split<;>omega,by omega,by omega,rfl,?_⟩;show _=_;have h:(stg l).size=l.length:=by rw[<- zR,zL]
 apply uH;rw[zL,h];show _=((stg l).extract 0 (min l.length k)).data.toList;simp[stg,Nat.min_comm]
end Lx
structure CSt (E T:TypeId) (s:Nat) (w wr:World) (bb:Nat) (pre post:List Value) (ao:Option Addr) (n c:Nat) (us:List Value):Prop where
 own:wr.ownsRow w.heap.size E s (.slice ao n c) n us
 box:Arr wr bb T (pre++.slice ao n c :: post)
 below:Below w.heap.size w wr
 new:w.heap.size<=bb
section
variable {E T : TypeId} {s : Nat} {w wr w' : World} {bb n c : Nat} {pre post us vs : List Value} {ao : Option Addr}
theorem CSt.keep(h:CSt E T s w wr bb pre post ao n c us)(hb:Below wr.heap.size wr w'):CSt E T s w w' bb pre post ao n c us :=
 ⟨qQ h.own hb,h.box.kept hb,h.below.trans (hb.mono h.below.size),h.new⟩
theorem CSt.push(h:CSt E T s w wr bb pre post ao n c us){Es:List TypeId}(hTE:T≠E)(hT:T∉Es)(hE:E∉Es){ao':Option Addr}{c':Nat}(ho:w'.ownsRow w.heap.size E s (.slice ao' (n+1) c') (n+1) (us++vs))(hg:wr.grownBy w' (Value.slice ao n c).ownBlock)(hb:Below w.heap.size wr w') :
    ∃W,w'.setCell ⟨bb,pre.length,none⟩ (.slice ao' (n+1) c')=W/\CSt E T s w W bb pre post ao' (n+1) c' (us++vs)/\w'.cell? ⟨bb,pre.length,none⟩=some (.slice ao n c)/\w'.frozen? ⟨bb,pre.length,none⟩=false/\Keeps (qS w.heap.size Es) wr W/\Hid (∀ (g:Nat) (T':TypeId) (cs:List Value),T'≠E->g≠bb->Arr wr g T' cs->Arr W g T' cs):=by
 have y:=h.box.row h.own hTE hg;have m:=y.set pre.length (.slice ao' (n+1) c');have e:(pre++.slice ao n c :: post).set pre.length (.slice ao' (n+1) c')=pre++.slice ao' (n+1) c' :: post:=by simp
 rw[e] at m;refine⟨_,rfl,⟨xy ho (zI ho y hTE) _,m,(h.below.trans hb).setCell (p:=⟨bb,pre.length,none⟩) h.new _,h.new⟩,?_,y.frozen _,?_,?_⟩
 . rw[y.cell];simp
 . exact(zS h.own hg hE).trans (qE _ _) hb.size (zd y hT _)
 . intro g T' cs H G J;exact(J.row h.own H hg).far (by show g≠bb;exact G) _
end
theorem Ye(w:World)(T:TypeId)(cs:List Value):∃W,(w.alloc (.cells cs.toArray T)).drew=W/\Arr W w.heap.size T cs/\Below w.heap.size w W/\W.heap.size=w.heap.size+1 :=
 ⟨_,rfl,(Arr.new w T cs).drew,((Below.refl _ _).alloc (Nat.le_refl _) _).drew,by simp⟩
theorem ZE(w:World)(p:Addr)(v:Value)(hv:w.cell? p=some v):∀o:Obj,(w.alloc o).cell? p=some v:=λo=>(World.cell?_of_block (Below.heap_alloc w o p.block (World.block_lt_of_cell? w _ hv))).trans hv
end Go.Proofs.YtkefajjcpcoajaaGreatDoor
/-
  What a law on a definition begins with: the definition is cut and stored again.
-/
namespace Go.Proofs.YtkefajjcpcoajaaGreatDoor
open Go.RowKit Lx
namespace Lx
end Lx
end Go.Proofs.YtkefajjcpcoajaaGreatDoor
namespace Go.Proofs.YtkefajjcpcoajaaGreatDoor.Lx
structure zC where
 key:List UInt8
 vals:List (List UInt8)
 line:Int
structure qK where
 kind:List UInt8
 name:List UInt8
 flds:List zC
 line:Int
structure ke where
 title:List UInt8
 blks:List qK
structure Cst where
 name:List UInt8
 cands:List (List UInt8)
 method:Int
 seats:Int
 ranks:Int
 digits:Int
 ties:Int
 over:Int
 skip:Int
structure Sty where
 name:List UInt8
 precs:List Int
 conts:List Int
structure Elc where
 title:List UInt8
 dots:Int
 blank:Int
 marked:Int
 precs:List (List UInt8)
 conts:List Cst
 stys:List Sty
 scanners:Int
 batch:Int
 rneg:Bool
 rnum:List Int
 rden:List Int
 cell:Int
 seed:List UInt8
def zT:List UInt8:=[115,99,97,110]
def qe:List UInt8:=[115,99,97,110,110,101,114,115]
def qB:List UInt8:=[112,114,101,99,105,110,99,116,115]
def qF:List UInt8:=[99,111,110,116,101,115,116]
def qI:List UInt8:=[115,116,121,108,101]
def ql:List UInt8:=[97,117,100,105,116]
def qy:List UInt8:=[112,114,105,118,97,99,121]
def yW:List UInt8:=[100,111,116,115]
def jo:List UInt8:=[98,108,97,110,107]
def jT:List UInt8:=[109,97,114,107,101,100]
def xu:List UInt8:=[99,111,117,110,116]
def vI:List UInt8:=[98,97,116,99,104]
def zy:List UInt8:=[110,97,109,101,115]
def zG:List UInt8:=[109,101,116,104,111,100]
def zO:List UInt8:=[115,101,97,116,115]
def kp:List UInt8:=[114,97,110,107,115]
def qY:List UInt8:=[100,105,103,105,116,115]
def xO:List UInt8:=[116,105,101,115]
def zj:List UInt8:=[111,118,101,114,118,111,116,101]
def kX:List UInt8:=[115,107,105,112]
def zm:List UInt8:=[99,97,110,100,105,100,97,116,101,115]
def qO:List UInt8:=[99,111,110,116,101,115,116,115]
def jN:List UInt8:=[114,105,115,107]
def yX:List UInt8:=[115,101,101,100]
def yg:List UInt8:=[99,101,108,108]
def MN:List UInt8:=[105,114,118]
def Wn:List UInt8:=[109,101,101,107]
def QH:List UInt8:=[103,114,101,103,111,114,121]
def uf:List UInt8:=[98,97,99,107,119,97,114,100,115]
def wh:List UInt8:=[102,111,114,119,97,114,100,115]
def MP:List UInt8:=[108,111,116]
def ZF:List UInt8:=[115,116,111,112]
def VP:List UInt8:=[99,108,111,115,101]
def MQ:List UInt8:=[116,119,111]
structure ZG where
 kind:List UInt8
 most:Nat
 named:Bool
def zr:List ZG:=[⟨zT,1,false⟩,⟨qe,1,false⟩,⟨qB,1,false⟩,⟨qF,4,true⟩,⟨qI,6,true⟩,⟨ql,1,false⟩,⟨qy,1,false⟩]
structure jj where
 kind:List UInt8
 key:List UInt8
 form:Nat
 least:Nat
 most:Nat
def zf:List jj:=[⟨zT,yW,0,2,7⟩,⟨zT,jo,0,1,100⟩,⟨zT,jT,0,1,100⟩,⟨qe,xu,0,1,6⟩,⟨qe,vI,0,1,16⟩,⟨qB,zy,2,1,12⟩,
  ⟨qF,zG,1,0,0⟩,⟨qF,zO,0,1,5⟩,⟨qF,kp,0,1,7⟩,⟨qF,qY,0,1,6⟩,⟨qF,xO,1,0,0⟩,⟨qF,zj,1,0,0⟩,⟨qF,kX,1,0,0⟩,⟨qF,zm,2,1,7⟩,
  ⟨qI,qB,2,1,12⟩,⟨qI,qO,2,1,4⟩,⟨ql,jN,3,0,0⟩,⟨ql,yX,4,0,0⟩,⟨qy,yg,0,1,400⟩]
def vJ(kind:List UInt8):Option ZG:=zr.find? λr=>decide (r.kind=kind)
def zi(kind key:List UInt8):Option jj:=zf.find? λr=>decide (r.kind=kind)&&decide (r.key=key)
def jP(key:List UInt8):List (List UInt8) :=
 if key=zG then [[],MN,Wn,QH] else if key=xO then [[],uf,wh,MP] else if key=zj then [[],ZF,kX] else if key=kX then [[],VP,ZF,MQ] else []
def vt(v:List UInt8):List (List UInt8)->Option Nat
  | []=>none
  | u :: r=>if u=v then some 0 else (vt v r).map (· + 1)
def xP(key v:List UInt8):Nat:=(vt v (jP key)).getD 0
def jw(v:List UInt8)(most:Nat):Bool:=decide (v.length<=most)&&v.all z8
def xz(v:List UInt8):Bool := !v.isEmpty&&jw v 24
def kG(v:List UInt8):Bool:=v.any λc=>decide (c.toNat=47)
def yC(v:List UInt8):Bool:=xF v&&kG v
def zz(v:List UInt8):Nat:=v.foldl (λn c=>10*n+(c.toNat-48)) 0
def ku(v:List UInt8):List UInt8:=v.takeWhile λc => !decide (c.toNat=47)
def kY(v:List UInt8):List UInt8:=(v.dropWhile λc => !decide (c.toNat=47)).drop 1
def j7(b:qK)(k:List UInt8):Option zC:=b.flds.find? λf=>decide (f.key=k)
def xQ(b:qK)(k:List UInt8):Bool:=(j7 b k).isSome
def qN(b:qK)(k:List UInt8):List (List UInt8):=match j7 b k with
 | some f=>f.vals
 | none=>[]
def zx(b:qK)(k:List UInt8):Int:=match j7 b k with
 | some f=>f.line
 | none=>0
def qV(b:qK)(k:List UInt8):List UInt8:=((qN b k)[0]?).getD []
def qR(b:qK)(k:List UInt8):Nat:=zz (qV b k)
def kL(b:qK)(k:List UInt8):Nat:=xP k (qV b k)
def qH(k:List UInt8)(bs:List qK):List qK:=bs.filter λb=>decide (b.kind=k)
def jk(bs:List qK):List (List UInt8):=bs.map qK.name
def jD(bs:List qK):List (List UInt8):=jk (qH qF bs)
def zF(bs:List qK):List (List UInt8):=(qH qB bs).flatMap λb=>qN b zy
def zJ(k:List UInt8)(bs:List qK):qK:=((qH k bs).getLast?).getD ⟨[],[],[],0⟩
def xm(earlier:List qK)(b:qK):Nat:=match vJ b.kind with
 | none=>2
 | some r =>
  if r.named then
   if b.name=[] then 6 else if 24<b.name.length || !zv b.name then 8 else if (jk (qH b.kind earlier)).contains b.name then 3 else if r.most<=(qH b.kind earlier).length then 7 else 0
  else if b.name≠[] then 2 else if r.most<=(qH b.kind earlier).length then 3 else 0
def j8(most:Nat):List (List UInt8)->List (List UInt8)->Nat
  | _,[]=>0
  | seen,n :: r=>if most<=seen.length then 7 else if !xz n then 8 else if seen.contains n then 3 else j8 most (seen++[n]) r
def vL(r:jj)(vs:List (List UInt8)):Nat:=if vs.length<r.least then 7 else j8 r.most [] vs
def Ux(r:jj)(v:List UInt8):Nat:=if !zg v then 5 else if zz v<r.least||r.most<zz v then 4 else 0
def jl(v:List UInt8):Nat:=if !yC v then 5 else if zz (kY v)=0||1000*zz (ku v)<zz (kY v)||zz (kY v)<2*zz (ku v) then 4 else 0
def xf(r:jj)(v:List UInt8):Nat :=
 if r.form=0 then Ux r v else if r.form=1 then (if xP r.key v=0 then 2 else 0) else if r.form=3 then jl v else if r.form=4 then (if !jw v 24 then 8 else 0) else 0
def jp(kind:List UInt8)(earlier:List zC)(f:zC):Nat:=match zi kind f.key with
 | none=>2
 | some r=>if earlier.any (λg=>decide (g.key=f.key)) then 3 else if r.form=2 then vL r f.vals else if f.vals.length≠1 then 7 else xf r ((f.vals[0]?).getD [])
def jZ(kind:List UInt8):List zC->List zC->Nat×Int
  | _,[]=>(0,0)
  | e,f :: r=>if jp kind e f≠0 then (jp kind e f,f.line) else jZ kind (e++[f]) r
def jv(b:qK):Bool:=zf.any λr=>decide (r.kind=b.kind) && !(decide (r.key=qY) && !decide (kL b zG=2)) && !xQ b r.key
def yr(b:qK):Nat×Int :=
 if b.kind=qF then
  if xQ b qY && !decide (kL b zG=2) then (5,zx b qY) else if decide (kL b zG=1)&&decide (1<qR b zO) then (4,zx b zO) else (0,0)
 else if b.kind=zT then (if qR b jT<qR b jo then (4,b.line) else (0,0)) else (0,0)
def zP(earlier:List qK)(b:qK):Nat×Int :=
 if xm earlier b≠0 then (xm earlier b,b.line)
 else if (jZ b.kind [] b.flds).1≠0 then jZ b.kind [] b.flds
 else if jv b then (6,b.line) else yr b
def zk:List qK->List qK->Nat×Int
  | _,[]=>(0,0)
  | e,b :: r=>if (zP e b).1≠0 then zP e b else zk (e++[b]) r
def jB(precs:List (List UInt8))(ln:Int):List (List UInt8)->List (List UInt8)->(Nat×Int)×List (List UInt8)
  | used,[]=>((0,0),used)
  | used,v :: r=>if !precs.contains v then ((2,ln),used) else if used.contains v then ((3,ln),used) else jB precs ln (used++[v]) r
def vu(conts:List (List UInt8))(ln:Int)(vs:List (List UInt8)):Nat×Int:=if vs.all (λv=>conts.contains v) then (0,0) else (2,ln)
def qz(precs conts:List (List UInt8)):List (List UInt8)->List qK->Nat×Int
  | used,[]=>if used.length<precs.length then (6,0) else (0,0)
  | used,b :: r =>
   if (jB precs (zx b qB) used (qN b qB)).1.1≠0 then (jB precs (zx b qB) used (qN b qB)).1
   else if (vu conts (zx b qO) (qN b qO)).1≠0 then vu conts (zx b qO) (qN b qO)
   else qz precs conts (jB precs (zx b qB) used (qN b qB)).2 r
def kg(bs:List qK):Bool:=zr.any λr=>(qH r.kind bs).isEmpty
def jI(s:ke):Nat×Int :=
 if !jw s.title 60 then (8,0)
 else if (zk [] s.blks).1≠0 then zk [] s.blks
 else if kg s.blks then (6,0)
 else qz (zF s.blks) (jD s.blks) [] (qH qI s.blks)
def jV(l:List (List UInt8))(v:List UInt8):Int:=match vt v l with
 | some i=>i
 | none => -1
def j6(b:qK):Cst:=⟨b.name,qN b zm,kL b zG,qR b zO,qR b kp,qR b qY,kL b xO,kL b zj,kL b kX⟩
def vM(precs conts:List (List UInt8))(b:qK):Sty:=⟨b.name,(qN b qB).map (jV precs),(qN b qO).map (jV conts)⟩
def Uy(a d:Nat):Nat×Nat:=(a / Nat.gcd a d,d / Nat.gcd a d)
def J1(v:List UInt8):List Int:=[(((Uy (zz (ku v)) (zz (kY v))).1:Nat):Int)]
def J2(v:List UInt8):List Int:=[(((Uy (zz (ku v)) (zz (kY v))).2:Nat):Int)]
def kN(s:ke):Elc where
 title:=s.title
 dots:=qR (zJ zT s.blks) yW
 blank:=qR (zJ zT s.blks) jo
 marked:=qR (zJ zT s.blks) jT
 precs:=zF s.blks
 conts:=(qH qF s.blks).map j6
 stys:=(qH qI s.blks).map (vM (zF s.blks) (jD s.blks))
 scanners:=qR (zJ qe s.blks) xu
 batch:=qR (zJ qe s.blks) vI
 rneg:=false
 rnum:=J1 (qV (zJ ql s.blks) jN)
 rden:=J2 (qV (zJ ql s.blks) jN)
 cell:=qR (zJ qy s.blks) yg
 seed:=qV (zJ ql s.blks) yX
def Yf:Elc:=⟨[],0,0,0,[],[],[],0,0,false,[],[],0,[]⟩
def jM(s:ke):(Nat×Int)×Elc:=if (jI s).1≠0 then (jI s,Yf) else ((0,0),kN s)
end Go.Proofs.YtkefajjcpcoajaaGreatDoor.Lx
namespace Go.Proofs.YtkefajjcpcoajaaGreatDoor
open Go.RowKit Lx
variable {i:Nat}
def FC(S:World->Nat->Prop)(w:World):List zC->List Value->Prop
  | [],us=>us=[]
  | f :: fs,us=>∃vo vn vc r,us=.string (stg f.key) :: .slice vo vn vc :: .int .i64 f.line :: r/\StrL S w vo vn vc f.vals/\FC S w fs r
def FldS(S:World->Nat->Prop)(w:World)(ao:Option Addr)(n c:Nat)(fs:List zC):Prop:=∃us,Row S 3 w ao n c us/\FC S w fs us
def BC(S:World->Nat->Prop)(w:World):List qK->List Value->Prop
  | [],us=>us=[]
  | b :: bs,us=>∃fo fn fc r,us=.string (stg b.kind) :: .string (stg b.name) :: .slice fo fn fc :: .int .i64 b.line :: r/\FldS S w fo fn fc b.flds/\BC S w bs r
def BlkS(S:World->Nat->Prop)(w:World)(ao:Option Addr)(n c:Nat)(bs:List qK):Prop:=∃us,Row S 4 w ao n c us/\BC S w bs us
section
variable {S T : World -> Nat -> Prop} {n c : Nat} {w w' : World} {ao : Option Addr} {us : List Value}
theorem Row.nilS(s:Nat)(w:World):Row S s w none 0 0 []:=Row.nil S s w
theorem FC.keep(hS:jR S)(hk:Keeps S w w'):∀ {fs:List zC} {us:List Value},FC S w fs us->FC S w' fs us
  | [],_,h=>h
  | _ :: _,_,⟨vo,vn,vc,r,h1,h2,h4⟩=>⟨vo,vn,vc,r,h1,Row.keep h2 hS hk,FC.keep hS hk h4⟩
theorem FC.mono(hm:∀k,S w k->T w k):∀ {fs:List zC} {us:List Value},FC S w fs us->FC T w fs us
  | [],_,h=>h
  | _ :: _,_,⟨vo,vn,vc,r,h1,h2,h4⟩=>⟨vo,vn,vc,r,h1,Row.mono h2 hm,FC.mono hm h4⟩
theorem FC.append:∀ {fs:List zC} {us:List Value} {gs:List zC} {vs:List Value},FC S w fs us->FC S w gs vs->FC S w (fs++gs) (us++vs)
  | [],_,_,_,h,k=>by
   have:_=[]:=h;subst this;exact k
  | _ :: _,_,_,_,⟨vo,vn,vc,r,h1,h2,h4⟩,k=>by
   subst h1;exact⟨vo,vn,vc,_,rfl,h2,FC.append h4 k⟩
theorem FC.len:∀ {fs:List zC} {us:List Value},FC S w fs us->us.length=fs.length*3
  | [],_,h=>by
   have:_=[]:=h;subst this;rfl
  | _ :: fs,_,⟨vo,vn,vc,r,h1,_,h4⟩=>by
   subst h1;have:=FC.len h4;simp only[List.length_cons];omega
theorem FC.at:∀ {fs:List zC} {us:List Value},FC S w fs us->∀ (i:Nat) (f:zC),fs[i]? = some f->us[i*3]? = some (.string (stg f.key))/\(∃vo vn vc,us[i*3+1]? = some (.slice vo vn vc)/\StrL S w vo vn vc f.vals)/\us[i*3+2]? = some (.int .i64 f.line)
  | [],_,_,i,f,hf=>by simp at hf
  | g :: fs,_,⟨vo,vn,vc,r,h1,h2,h4⟩,0,f,hf=>by
   (have:g=f:=by simpa using hf);subst this;subst h1;exact⟨rfl,⟨vo,vn,vc,rfl,h2⟩,rfl⟩
  | g :: fs,_,⟨vo,vn,vc,r,h1,h2,h4⟩,i+1,f,hf=>by
   subst h1;have:=FC.at h4 i f (by simpa using hf);rw[show(i+1)*3=i*3+3 by omega];exact this
theorem FC.take:∀ {fs:List zC} {us:List Value},FC S w fs us->∀i,FC S w (fs.take i) (us.take (i*3))
  | [],us,h,i=>by
   have:us=[]:=h;subst this;rw[List.take_nil,List.take_nil];exact rfl
  | g :: fs,_,h,0=>by
   rw[Nat.zero_mul,List.take_zero,List.take_zero];exact rfl
  | g :: fs,_,⟨vo,vn,vc,r,h1,h2,h4⟩,i+1=>by
   subst h1;rw[show(i+1)*3=i*3+1+1+1 by omega,List.take_succ_cons,List.take_succ_cons,List.take_succ_cons,List.take_succ_cons];exact⟨vo,vn,vc,_,rfl,h2,FC.take h4 i⟩
theorem Row.take{s:Nat}(h:Row S s w ao n c us)(hi:i<=n):Row S s w ao i c (us.take (i*s)):=by
 have J:=h.len;have H:=h.cap;have G:i*s<=n*s:=Nat.mul_le_mul hi (Nat.le_refl _);refine⟨by rw[List.length_take];omega,by omega,h.room,λy=>h.isSome (by omega),λk u m=>h.cell k u ?_,h.nil0⟩;rw[List.getElem?_take] at m;split at m
 . exact m
 . cases m
theorem FldS.keep{fs:List zC}(h:FldS S w ao n c fs)(hS:jR S)(hk:Keeps S w w'):FldS S w' ao n c fs:=by
 obtain⟨us,y,m⟩:=h;exact⟨us,y.keep hS hk,m.keep hS hk⟩
theorem FldS.mono{fs:List zC}(h:FldS S w ao n c fs)(hm:∀k,S w k->T w k):FldS T w ao n c fs:=by
 obtain⟨us,y,m⟩:=h;exact⟨us,y.mono hm,m.mono hm⟩
theorem FldS.len{fs:List zC}(h:FldS S w ao n c fs):fs.length=n:=by
 obtain⟨us,y,m⟩:=h;have a:=y.len;have b:=m.len;omega
theorem FldS.take{fs:List zC}(h:FldS S w ao n c fs)(hi:i<=n):FldS S w ao i c (fs.take i):=by
 obtain⟨us,y,m⟩:=h;exact⟨_,y.take hi,m.take i⟩
theorem FldS.caps{fs:List zC}(h:FldS S w ao n c fs):n<=c/\c<=9223372036854775807:=by
 obtain⟨us,m,_⟩:=h;exact⟨m.cap,m.room⟩
theorem BC.keep(hS:jR S)(hk:Keeps S w w'):∀ {bs:List qK} {us:List Value},BC S w bs us->BC S w' bs us
  | [],_,h=>h
  | _ :: _,_,⟨vo,vn,vc,r,h1,h2,h4⟩=>⟨vo,vn,vc,r,h1,FldS.keep h2 hS hk,BC.keep hS hk h4⟩
theorem BC.mono(hm:∀k,S w k->T w k):∀ {bs:List qK} {us:List Value},BC S w bs us->BC T w bs us
  | [],_,h=>h
  | _ :: _,_,⟨vo,vn,vc,r,h1,h2,h4⟩=>⟨vo,vn,vc,r,h1,FldS.mono h2 hm,BC.mono hm h4⟩
theorem BC.append:∀ {bs:List qK} {us:List Value} {gs:List qK} {vs:List Value},BC S w bs us->BC S w gs vs->BC S w (bs++gs) (us++vs)
  | [],_,_,_,h,k=>by
   have:_=[]:=h;subst this;exact k
  | _ :: _,_,_,_,⟨vo,vn,vc,r,h1,h2,h4⟩,k=>by
   subst h1;exact⟨vo,vn,vc,_,rfl,h2,BC.append h4 k⟩
theorem BC.len:∀ {bs:List qK} {us:List Value},BC S w bs us->us.length=bs.length*4
  | [],_,h=>by
   have:_=[]:=h;subst this;rfl
  | _ :: bs,_,⟨vo,vn,vc,r,h1,_,h4⟩=>by
   subst h1;have:=BC.len h4;simp only[List.length_cons];omega
theorem BC.at:∀ {bs:List qK} {us:List Value},BC S w bs us->∀ (i:Nat) (b:qK),bs[i]? = some b->us[i*4]? = some (.string (stg b.kind))/\us[i*4+1]? = some (.string (stg b.name))/\(∃fo fn fc,us[i*4+2]? = some (.slice fo fn fc)/\FldS S w fo fn fc b.flds)/\us[i*4+3]? = some (.int .i64 b.line)
  | [],_,_,i,f,hf=>by simp at hf
  | g :: fs,_,⟨vo,vn,vc,r,h1,h2,h4⟩,0,f,hf=>by
   (have:g=f:=by simpa using hf);subst this;subst h1;exact⟨rfl,rfl,⟨vo,vn,vc,rfl,h2⟩,rfl⟩
  | g :: fs,_,⟨vo,vn,vc,r,h1,h2,h4⟩,i+1,f,hf=>by
   subst h1;have:=BC.at h4 i f (by simpa using hf);rw[show(i+1)*4=i*4+4 by omega];exact this
theorem BC.take:∀ {fs:List qK} {us:List Value},BC S w fs us->∀i,BC S w (fs.take i) (us.take (i*4))
  | [],us,h,i=>by
   have:us=[]:=h;subst this;rw[List.take_nil,List.take_nil];exact rfl
  | g :: fs,_,h,0=>by
   rw[Nat.zero_mul,List.take_zero,List.take_zero];exact rfl
  | g :: fs,_,⟨vo,vn,vc,r,h1,h2,h4⟩,i+1=>by
   subst h1;rw[show(i+1)*4=i*4+1+1+1+1 by omega,List.take_succ_cons,List.take_succ_cons,List.take_succ_cons,List.take_succ_cons,List.take_succ_cons];exact⟨vo,vn,vc,_,rfl,h2,BC.take h4 i⟩
theorem BlkS.keep{bs:List qK}(h:BlkS S w ao n c bs)(hS:jR S)(hk:Keeps S w w'):BlkS S w' ao n c bs:=by
 obtain⟨us,y,m⟩:=h;exact⟨us,y.keep hS hk,m.keep hS hk⟩
theorem BlkS.mono{bs:List qK}(h:BlkS S w ao n c bs)(hm:∀k,S w k->T w k):BlkS T w ao n c bs:=by
 obtain⟨us,y,m⟩:=h;exact⟨us,y.mono hm,m.mono hm⟩
theorem BlkS.len{bs:List qK}(h:BlkS S w ao n c bs):bs.length=n:=by
 obtain⟨us,y,m⟩:=h;have a:=y.len;have b:=m.len;omega
theorem BlkS.take{bs:List qK}(h:BlkS S w ao n c bs)(hi:i<=n):BlkS S w ao i c (bs.take i):=by
 obtain⟨us,y,m⟩:=h;exact⟨_,y.take hi,m.take i⟩
theorem BlkS.caps{bs:List qK}(h:BlkS S w ao n c bs):n<=c/\c<=9223372036854775807:=by
 obtain⟨us,m,_⟩:=h;exact⟨m.cap,m.room⟩
theorem StrL.take{vs:List (List UInt8)}(h:StrL S w ao n c vs)(hi:i<=n):StrL S w ao i c (vs.take i):=by
 have:=Row.take h hi;unfold StrL;rw[List.map_take]
 rwa [Nat.mul_one] at this
theorem StrL.get{vs:List (List UInt8)}(h:StrL S w ao n c vs)(i:Nat)(hi:i<n):∃ (v:List UInt8) (a:Addr),vs[i]? = some v /\
    (∀W,(Instr.indexAt 26 (.slice ao n c) (.int .i64 (i:Int))).run Tryz.prog W=.ok (.pointer (some a)) W)/\w.cell? a=some (.string (stg v)):=by
 obtain⟨v,m⟩:∃v,vs[i]? = some v:=⟨_,List.getElem?_eq_getElem (by rw[h.len];exact hi)⟩;have y:=yQ Tryz.underlying26 (show(Tryz.prog.info? 9).map (·.size)=some 1 by kernel_rfl) h i hi;rw[Nat.mul_one] at y;exact⟨v,pt ao i,m,y,h.at i v m⟩
end
section
variable {S : World -> Nat -> Prop} {n c : Nat} {w : World} {ao : Option Addr}
theorem FldS.at{fs:List zC}(h:FldS S w ao n c fs)(i:Nat)(f:zC)(hf:fs[i]? = some f):w.cell? (pt ao (i*3))=some (.string (stg f.key))/\(∃vo vn vc,w.cell? (pt ao (i*3+1))=some (.slice vo vn vc)/\StrL S w vo vn vc f.vals)/\w.cell? (pt ao (i*3+2))=some (.int .i64 f.line):=by
 obtain⟨us,m,H⟩:=h;obtain⟨a,⟨vo,vn,vc,y,G⟩,J⟩:=H.at i f hf;exact⟨(m.cell _ _ a).1,⟨vo,vn,vc,(m.cell _ _ y).1,G⟩,(m.cell _ _ J).1⟩
theorem BlkS.at{bs:List qK}(h:BlkS S w ao n c bs)(i:Nat)(b:qK)(hb:bs[i]? = some b):w.cell? (pt ao (i*4))=some (.string (stg b.kind))/\w.cell? (pt ao (i*4+1))=some (.string (stg b.name))/\(∃fo fn fc,w.cell? (pt ao (i*4+2))=some (.slice fo fn fc)/\FldS S w fo fn fc b.flds)/\w.cell? (pt ao (i*4+3))=some (.int .i64 b.line):=by
 obtain⟨us,m,V⟩:=h;obtain⟨a,H,⟨y,Z,vc,G,J⟩,d1⟩:=V.at i b hb;exact⟨(m.cell _ _ a).1,(m.cell _ _ H).1,⟨y,Z,vc,(m.cell _ _ G).1,J⟩,(m.cell _ _ d1).1⟩
theorem FldS.get{fs:List zC}(h:FldS S w ao n c fs)(i:Nat)(hi:i<n):∃ (f:zC) (a:Addr) (vo:Option Addr) (vn vc:Nat),fs[i]? = some f /\
    (∀W,(Instr.indexAt 53 (.slice ao n c) (.int .i64 (i:Int))).run Tryz.prog W=.ok (.pointer (some a)) W) /\
    w.cell? a=some (.string (stg f.key))/\w.cell? ⟨a.block,a.off+1,none⟩=some (.slice vo vn vc)/\w.cell? ⟨a.block,a.off+2,none⟩=some (.int .i64 f.line)/\StrL S w vo vn vc f.vals:=by
 obtain⟨f,m⟩:∃f,fs[i]? = some f:=⟨_,List.getElem?_eq_getElem (by rw[h.len];exact hi)⟩;obtain⟨G,⟨vo,vn,vc,J,V⟩,H⟩:=h.at i f m;obtain⟨us,y,_⟩:=h;exact⟨f,pt ao (i*3),vo,vn,vc,m,yQ Tryz.underlying53 (show(Tryz.prog.info? 63).map (·.size)=some 3 by kernel_rfl) y i hi,G,by rw[vP ao (i*3) 0];exact J,by rw[vP ao (i*3) 1];exact H,V⟩
theorem BlkS.get{bs:List qK}(h:BlkS S w ao n c bs)(i:Nat)(hi:i<n):∃ (b:qK) (a:Addr) (fo:Option Addr) (fn fc:Nat),bs[i]? = some b /\
    (∀W,(Instr.indexAt 22 (.slice ao n c) (.int .i64 (i:Int))).run Tryz.prog W=.ok (.pointer (some a)) W) /\
    w.cell? a=some (.string (stg b.kind))/\w.cell? ⟨a.block,a.off+1,none⟩=some (.string (stg b.name))/\w.cell? ⟨a.block,a.off+2,none⟩=some (.slice fo fn fc)/\w.cell? ⟨a.block,a.off+3,none⟩=some (.int .i64 b.line)/\FldS S w fo fn fc b.flds:=by
 obtain⟨b,m⟩:∃f,bs[i]? = some f:=⟨_,List.getElem?_eq_getElem (by rw[h.len];exact hi)⟩;obtain⟨G,V,⟨fo,fn,fc,Z,J⟩,H⟩:=h.at i b m;obtain⟨us,y,_⟩:=h;exact⟨b,pt ao (i*4),fo,fn,fc,m,yQ Tryz.underlying22 (show(Tryz.prog.info? 55).map (·.size)=some 4 by kernel_rfl) y i hi,G,by rw[vP ao (i*4) 0];exact V,by rw[vP ao (i*4) 1];exact Z,by rw[vP ao (i*4) 2];exact H,J⟩
end
namespace Lx
def Pg(f:Fld):zC:=⟨f.key,f.vals,f.line⟩
def Jy(b:Blc):qK:=⟨b.kind,b.name,b.flds.map Pg,b.line⟩
def gR(s:Src):ke:=⟨s.title,s.blks.map Jy⟩
end Lx
section
variable {S : World -> Nat -> Prop} {n c : Nat} {w : World} {ao : Option Addr}
theorem FCells.toS:∀ {fs:List Fld} {us:List Value},FCells true S w fs us->FC S w (fs.map Pg) us
  | [],_,h=>h
  | _ :: _,_,⟨vo,vn,vc,z,r,h1,h2,h3,h4⟩=>by
   have:=h3 rfl;subst this;exact⟨vo,vn,vc,r,h1,h2,FCells.toS h4⟩
theorem FldL.toS{fs:List Fld}(h:FldL true S w ao n c fs):FldS S w ao n c (fs.map Pg):=by
 obtain⟨us,y,m⟩:=h;exact⟨us,y,m.toS⟩
theorem BCells.toS:∀ {fs:List Blc} {us:List Value},BCells true S w fs us->BC S w (fs.map Jy) us
  | [],_,h=>h
  | _ :: _,_,⟨vo,vn,vc,z,r,h1,h2,h3,h4⟩=>by
   have:=h3 rfl;subst this;exact⟨vo,vn,vc,r,h1,h2.toS,BCells.toS h4⟩
theorem BlkL.toS{fs:List Blc}(h:BlkL true S w ao n c fs):BlkS S w ao n c (fs.map Jy):=by
 obtain⟨us,y,m⟩:=h;exact⟨us,y,m.toS⟩
end
theorem kq(u v:List UInt8):((stg u).toList == (stg v).toList)=decide (u=v):=by
 rw[ByteArray.toList_eq,ByteArray.toList_eq];show(u == v)=decide (u=v);by_cases h:u=v
 . subst h;simp
 . rw[decide_eq_false h];simp[h]
