/- -/
import Derived.Test.YtkefajjcpcoajaaGreatDoorPkA0
import Derived.Maps.AppendAt
import Derived.Deep.RegionHeld3
import Derived.Test.YtkefajjcpcoajaaGreatDoorPkA11
import Derived.Test.YtkefajjcpcoajaaGreatDoorPkA16
import Derived.Test.YtkefajjcpcoajaaGreatDoorPkA24
import Derived.Test.YtkefajjcpcoajaaGreatDoorPkA25
import Derived.Test.YtkefajjcpcoajaaGreatDoorPkA26
set_option linter.all false
set_option maxRecDepth 100000
set_option maxHeartbeats 6400000
namespace Go.Proofs.YtkefajjcpcoajaaGreatDoor
open Go.RowKit Lx
variable {B:Nat}{w:World}
section
variable {w : World} {ops : Array Oper} {o : Oper} {a : Act} {K : Act -> World -> Prop} {Q : Exit -> Act -> World -> Prop}
theorem Q0{T E:TypeId}{s bytes:Nat}{z:Value}(ht:Tryz.prog.underlying T=some (.slice E))(hinfo:(Tryz.prog.info? E).map (λi=>(i.zero,i.size,i.bytes))=some (some z,s,bytes))(hzs:z.cells.size=s)(hs:0<s)(hby:bytes<=1000)
    {X:World} {E2:Prop} {m:Nat} (hm:1<=m) (hm2:m<=100) (p q:Operand) (hgd:o.guard=none) (hop:o.op=.call { callee:=.builtin .append,args:=#[p,q],argTypes:=#[T,T] })
    {B:Nat} {ao:Option Addr} {n c:Nat} {us vs:List Value} (hX:w.alloc (.cells vs.toArray E)=X) (hO:w.ownsRow B E s (.slice ao n c) n us) (hB:B<=w.heap.size) (hn:n<=4000000) (hv:vs.length=m*s) (h1:∀u∈vs,u.oneCell'=true)
    (hp:a.eval p=.slice ao n c) (hq:a.eval q=.slice (some ⟨w.heap.size,0,none⟩) m m)
    (h:∀ao' c' w',w'.ownsRow B E s (.slice ao' (n+m) c') (n+m) (us++vs)->w.grownBy w' (Value.slice ao n c).ownBlock->Below B w w'->K (a.put o.dst (.slice ao' (n+m) c')) w') :
    if Region.wanted o (yielded ops a.tmps)=true then Oper.wp Tryz.prog o a X K Q else E2:=by
 have hw:Region.wanted o (yielded ops a.tmps)=true:=by simp[Region.wanted,hgd]
 rw[if_pos hw];subst hX;obtain⟨i0,hi,a0,V,Z⟩:=info_parts hinfo;have y:Below w.heap.size w (w.alloc (.cells vs.toArray E)):=(Below.refl _ _).alloc (Nat.le_refl _) _;have g1:w.grownBy (w.alloc (.cells vs.toArray E)) (Value.slice ao n c).ownBlock:=⟨y.os,y.tape,y.output,y.size,λk J _=>y.block k J⟩;have G:Arr (w.alloc (.cells vs.toArray E)) w.heap.size E vs:=Arr.new w _ vs;have a1:=qQ hO y;have a2:(n+m)*bytes<=(4000000+100)*1000:=Nat.mul_le_mul (by omega) hby;refine wp_append_own _ p q T hop B E i0 z s bytes ht hi a0 V Z hzs hs _ n _ hp a1 ⟨w.heap.size,0,none⟩ m m vs hq hv ?_ h1 (by unfold maxLen;omega) (by omega) (by simp;omega) ?_
 . intro j u hj;have e:=jm w.heap.size j;simp only[pt,Option.getD_some] at e;rw[e,G.cell];exact hj
 . intro v' w' H hg _;obtain⟨av,cv,hv⟩:∃ao c,v'=.slice ao (n+m) c:=by
    rcases H.2 with ⟨hv,h0⟩|⟨g,cap,_,hv,_⟩
    . omega
    . exact⟨_,cap,hv⟩
   subst hv;exact h av cv w' H (qC g1 hg) ((y.mono hB).trans ((Below.refl _ _).grown hg (by simp;omega) (λk J=>(World.ownsRow.lt hO k J).1)))
end
section
variable {w : World} {ops : Array Oper} {rest : List Oper} {a : Act} {Q : Exit -> Act -> World -> Prop} {d : Option Tmp} {p q : Operand} {ty : TypeId} {pos : String} {after : Array Edge}
theorem uT{ao:Option Addr}{n c:Nat}{us:List Value}{x:Value}(hO:w.ownsRow B 9 1 (.slice ao n c) n us)(hB:B<=w.heap.size)(hn:n<=4000000)(h1:x.oneCell'=true)
    (hp:a.eval p=.slice ao n c) (hq:a.eval q=.slice (some ⟨w.heap.size,0,none⟩) 1 1)
    (h:∀ao' c' w',w'.ownsRow B 9 1 (.slice ao' (n+1) c') (n+1) (us++[x])->w.grownBy w' (Value.slice ao n c).ownBlock->((Value.slice ao' (n+1) c').ownBlock=(Value.slice ao n c).ownBlock\/(Value.slice ao' (n+1) c').ownBlock=some (w.heap.size+1))->Below B w w'->wpList Tryz.prog ops Q rest (a.put d (.slice ao' (n+1) c')) w') :
    wpList Tryz.prog ops Q (⟨d,.call { callee:=.builtin .append,args:=#[p,q],argTypes:=#[26,26] },ty,pos,after,none⟩ :: rest) a (w.alloc (.cells #[x] 9)):=by
 obtain⟨i0,hi,H,V,J⟩:=info_parts QW;have m:Below w.heap.size w (w.alloc (.cells #[x] 9)):=(Below.refl _ _).alloc (Nat.le_refl _) _;have g1:w.grownBy (w.alloc (.cells #[x] 9)) (Value.slice ao n c).ownBlock:=⟨m.os,m.tape,m.output,m.size,λk hk _=>m.block k hk⟩;have Z:=qQ hO m;refine wpList_append_own_at _ rfl p q 26 rfl B 9 i0 (.string ⟨#[]⟩) 1 16 Tryz.underlying26 hi H V J rfl (by decide) _ n _ hp Z ⟨w.heap.size,0,none⟩ 1 1 [x] hq rfl (cell_one_new _ _ _) (by simpa using h1) (by unfold maxLen;omega) (by omega) (by simp;omega) ?_;intro v' w' y hg _ a0;obtain⟨av,cv,G⟩:∃ao c,v'=.slice ao (n+1) c:=by
  rcases y.2 with ⟨G,h0⟩|⟨g,cap,_,G,_⟩
  . omega
  . exact⟨_,cap,G⟩
 subst G;refine h av cv w' y (qC g1 hg) ?_ ((m.mono hB).trans ((Below.refl _ _).grown hg (by simp;omega) (λk hk=>(World.ownsRow.lt hO k hk).1)));rcases a0 with e|e
 . exact Or.inl e
 . exact Or.inr (by rw[e];simp)
end
def gK(B:Nat)(q:Option Nat):World->Nat->Prop:=λw k=>qS B [9,63] w k/\q≠some k
theorem xw(B:Nat)(q:Option Nat):jR (gK B q):=λw w' k hk he ⟨h,h2⟩=>⟨qE _ _ w w' k hk he h,h2⟩
theorem Zx{Es:List TypeId}{k:Nat}(h:qS B Es w k):k<w.heap.size:=by
 obtain⟨_,E,_,m,y,e⟩:=h;exact(Array.getElem?_eq_some_iff.1 e).1
theorem je{B':Nat}{Es Fs:List TypeId}(hB:B'<=B)(hs:∀E∈Es,E∈Fs):∀k,qS B Es w k->qS B' Fs w k:=λ_ ⟨h1,E,hE,r⟩=>⟨Nat.le_trans hB h1,E,hs E hE,r⟩
theorem NW{B':Nat}{Es:List TypeId}{q:Option Nat}(hB:B'<=B)(hs:∀E∈Es,E∈[9,63])(hq:∀k,q=some k->k<B):∀k,qS B Es w k->gK B' q w k :=
 λk h=>⟨je hB hs k h,λe=>by have:=hq k e;have:=h.1;omega⟩
structure DsI (B:Nat) (w:World) (bs:List qK) (bo:Option Addr) (bn bc:Nat) (ns:List (List UInt8)) (qo:Option Addr) (qn qc:Nat):Prop where
 blk:∃us,w.ownsRow B 55 4 (.slice bo bn bc) bn us/\BC (gK B (Value.slice qo qn qc).ownBlock) w bs us
 nms:w.ownsRow B 9 1 (.slice qo qn qc) qn (ns.map λv=>.string (stg v))
section
variable {B : Nat} {w w' : World} {bs : List qK} {bo : Option Addr} {bn bc : Nat} {ns : List (List UInt8)} {qo : Option Addr} {qn qc : Nat}
theorem DsI.below(h:DsI B w bs bo bn bc ns qo qn qc)(hb:Below w.heap.size w w'):DsI B w' bs bo bn bc ns qo qn qc:=by
 obtain⟨us,y,m⟩:=h.blk;exact⟨⟨us,qQ y hb,m.keep (xw _ _) (qD _ hb)⟩,qQ h.nms hb⟩
theorem Zy{Es:List TypeId}{q:Option Nat}(hE:Es=[9,63])(h:Keeps (qS B Es) w w'):Keeps (gK B q) w w':=λk hk ⟨hs,_⟩=>h k hk (by rw[hE];exact hs)
theorem DsI.block{us vs:List Value}{xs:List qK}{ao':Option Addr}{m c':Nat}(h:DsI B w bs bo bn bc ns qo qn qc)(hr:w.ownsRow B 55 4 (.slice bo bn bc) bn us)(hc:BC (gK B (Value.slice qo qn qc).ownBlock) w bs us)(hx:BC (gK B (Value.slice qo qn qc).ownBlock) w xs vs)
    (ho:w'.ownsRow B 55 4 (.slice ao' (bn+m) c') (bn+m) (us++vs)) (hg:w.grownBy w' (Value.slice bo bn bc).ownBlock):DsI B w' (bs++xs) ao' (bn+m) c' ns qo qn qc:=by
 have y:Keeps (gK B (Value.slice qo qn qc).ownBlock) w w':=Zy rfl (zS hr hg (by decide));exact⟨⟨_,ho,BC.append (hc.keep (xw _ _) y) (hx.keep (xw _ _) y)⟩,World.ownsRow.kept h.nms hg (qv h.nms hr (by decide))⟩
theorem DsI.name{x:List UInt8}{ao':Option Addr}{c':Nat}(h:DsI B w bs bo bn bc ns qo qn qc)
    (ho:w'.ownsRow B 9 1 (.slice ao' (qn+1) c') (qn+1) ((ns.map λv=>Value.string (stg v))++[.string (stg x)])) (hg:w.grownBy w' (Value.slice qo qn qc).ownBlock) (hob:(Value.slice ao' (qn+1) c').ownBlock=(Value.slice qo qn qc).ownBlock\/(Value.slice ao' (qn+1) c').ownBlock=some (w.heap.size+1)):DsI B w' bs bo bn bc (ns++[x]) ao' (qn+1) c':=by
 obtain⟨us,G,J⟩:=h.blk;let S2:World->Nat->Prop:=λw k=>gK B (Value.slice qo qn qc).ownBlock w k/\(Value.slice ao' (qn+1) c').ownBlock≠some k
 have y:jR S2:=λw w' k m he ⟨a1,a2⟩=>⟨xw _ _ w w' k m he a1,a2⟩
 have V:BC S2 w bs us:=J.mono λk ⟨a1,a2⟩=>⟨⟨a1,a2⟩,λe=>by
  rcases hob with e1|e1
  . exact a2 (e1.symm.trans e)
  . rw[e1] at e;injection e with e;have:=Zx a1;omega⟩
 have H:Keeps S2 w w':=jL hg (λk m=>m.1.2);exact⟨⟨us,World.ownsRow.kept G hg (qv G h.nms (by decide)),(V.keep y H).mono λk m=>⟨m.1.1,m.2⟩⟩,by rw[List.map_append];exact ho⟩
theorem DsI.box{g:Nat}{T:TypeId}{cs:List Value}(h:DsI B w bs bo bn bc ns qo qn qc)(hA:Arr w g T cs)(hT:T∉[9,63,55])(hg:w.grownBy w' (some g)):DsI B w' bs bo bn bc ns qo qn qc:=by
 obtain⟨us,m,J⟩:=h.blk;simp only[List.mem_cons,List.not_mem_nil,or_false,not_or] at hT;obtain⟨y,G,V⟩:=hT;have H:Keeps (gK B (Value.slice qo qn qc).ownBlock) w w':=Zy rfl (zD hA (by simp[y,G]) hg);exact⟨⟨us,World.ownsRow.kept m hg (Or.inr (zI m hA V)),J.keep (xw _ _) H⟩,World.ownsRow.kept h.nms hg (Or.inr (zI h.nms hA y))⟩
theorem DsI.names(h:DsI B w bs bo bn bc ns qo qn qc):StrL qU w qo qn qc ns:=(Row.own h.nms (by decide)).mono λ_ _=>trivial
end
namespace Lx
def LiS(most:Nat)(vs:List (List UInt8))(f:Nat×Int)(l:Int)(j:Nat)(fj:Nat×Int):Prop :=
 (fj.1=0/\fj=f/\yw most vs=j8 most (vs.take j) (vs.drop j))\/(fj.1≠0/\fj=z7 f (yw most vs) l)
theorem LiS.start{most:Nat}{vs:List (List UInt8)}{f:Nat×Int}{l:Int}:LiS most vs f l 0 (z7 f (if vs.length<1 then 7 else 0) l):=by
 unfold LiS;by_cases m:f.1=0
 . by_cases y:vs.length<1
   . right;rw[if_pos y];(have:yw most vs=7:=by unfold yw;rw[if_pos y]);rw[this,kK l m (by decide)];exact⟨by show(7:Nat)≠0;decide,rfl⟩
   . left;rw[if_neg y,jG];exact⟨m,rfl,by unfold yw;rw[if_neg y];rfl⟩
 . right;rw[vB l m,vB l m];exact⟨m,rfl⟩
theorem LiS.bad{most:Nat}{vs:List (List UInt8)}{f:Nat×Int}{l:Int}{e:Nat}(h0:f.1=0)(he:e≠0)(h:yw most vs=e)(k:Nat):LiS most vs f l k (z7 f e l):=by
 right;rw[h,kK l h0 he];exact⟨he,rfl⟩
theorem Xp(most:Nat)(s:List (List UInt8))(n:List UInt8)(r:List (List UInt8)):j8 most s (n :: r)=if most<=s.length then 7 else if !xz n then 8 else if s.contains n then 3 else j8 most (s++[n]) r:=rfl
end Lx
theorem Xq(K:ByteArray)(vs:List (List UInt8))(vo:Option Addr)(vn vc:Nat)(l:Int)(most:Nat)(MO:Int)(hMO:MO=most)(D:List Value)(f:Nat×Int)(g:Nat)(w:World)(hv:StrL (neF g) w vo vn vc vs)(hsz:∀v∈vs,v.length<=1000000)(hn:vn<=4000000)(h:St w g D f) :
    Calls Tryz.prog 73 #[.pointer (some ⟨g,0,none⟩),vF K vo vn vc l,.int .i64 MO] w λx w'=>∃ro m d,x=.returned (.slice ro m d)/\St w' g D (z7 f (yw most vs) l)/\w.grownBy w' (some g)/\StrL (qS w.heap.size [9]) w' ro m d vs:=by
 show Calls Tryz.prog 73 #[.pointer (some ⟨g,0,none⟩),.agg #[.string K,.slice vo vn vc,.int .i64 l],.int .i64 MO] w _;subst hMO;obtain⟨U,e1,AU,BU,hz⟩:=qG w 63 [.string K,.slice vo vn vc,.int .i64 l];obtain⟨bb,b1⟩:∃b,w.heap.size=b:=⟨_,rfl⟩;have hg:=jA h.lt;have b0:Hid (w.heap.size≠g):=λe=>by have:=hg.o;omega
 have y1:U.cell? ⟨w.heap.size,1,none⟩=some (.slice vo vn vc):=AU.cell 1;have y2:U.cell? ⟨w.heap.size,2,none⟩=some (.int .i64 l):=AU.cell 2;have GU:=jA (zH BU (some g));have J:=jA (StrL.len hv);have b6:=Row.cap hv;have b4:=Row.room hv;have HV:Hid (∀W,U.grownBy W (some g)->StrL (neF g) W vo vn vc vs):=λW hW=>Row.keep (Row.keep hv (ky g) (qD _ BU)) (ky g) (wG hW)
 have HY:Hid (∀W,U.grownBy W (some g)->W.cell? ⟨w.heap.size,1,none⟩=some (.slice vo vn vc)/\W.cell? ⟨w.heap.size,2,none⟩=some (.int .i64 l)):=λW hW=>⟨xV y1 hW b0.o,xV y2 hW b0.o⟩
 have SU:=jA (h.keep BU);have a6:Hid (w.heap.size<=U.heap.size):=BU.size;clear h hv AU BU hz y1 y2 b1;have HP:Hid (∀W v,v∈vs->Calls Tryz.prog 127 #[.string (stg v)] W λe w'=>e=.returned (.bool (xz v))/\W=w'):=λW v hv=>by
  have:=WW (stg v) W (by rw[kt];exact hsz v hv);rw[zL] at this;exact this
 by_cases b3:vn=0
 . (have V:Hid (z7 f 7 l=z7 f (yw most vs) l):=by show _=_;unfold yw;rw[if_pos (by have:=J.o;omega)]);have HF:=jA (jO D f 7 l g U SU.o (by decide) 7 rfl);obtain⟨q1,q2⟩:=HY.o U (uS _ _);subst b3;go_in;go_wp2_with (go_at_call 30;(with_reducible refine HF.o.mono ?_);rintro e w3 ⟨rfl,S0,G0⟩);have S:=jA S0;have G:=jA G0;clear S0 G0 q1 q2;(go_loopw [7] (λi wr=>i=.int .i64 0/\w3=wr) (λ_ _=>0));(case atStart=>exact⟨rfl,rfl⟩);case round =>
    obtain⟨rfl,rfl⟩:=hrel;obtain⟨q1,q2⟩:=HY.o w3 G.o;have a3:=jA (HV.o w3 G.o);go_wp2_with (at_builtin;refine ye (B:=w3.heap.size) (World.ownsRow_nil _ _ _ _) a3.o (Nat.le_refl _) (by omega) rfl rfl ?_;intro a5 c' w4 O4 B4);go_ret;refine⟨a5,_,c',rfl,by have:=S.o.keep B4;rwa [V.o] at this,qC GU.o (qC G.o (zH B4 _)),?_⟩;have a2:w.heap.size<=w3.heap.size:=Nat.le_trans a6.o G.o.size;have:=Row.mono (Row.own (s:=1) O4 (by decide)) (je (Fs:=[9]) a2 (λ_ h=>h));simpa[StrL] using this
 . (have b8:Hid (yw most vs=j8 most [] vs):=by show _=_;unfold yw;rw[if_neg (by have:=J.o;omega)]);(have t0:((vn:Int) == 0)=false:=by simp;omega);obtain⟨q1,q2⟩:=HY.o U (uS _ _);go_in;go_wp2_with fail;clear q1 q2;(go_loopw [7] (λi wr=>∃ (j:Nat) (y:Nat×Int),j<=vn/\i=.int .i64 (j:Int)/\Hid (St wr g D y)/\Hid (U.grownBy wr (some g))/\Hid (LiS most vs f l j y)) (λi _=>vn-(intOf i).toNat));case atStart =>
    refine⟨0,f,Nat.zero_le _,rfl,SU,uS _ _,?_⟩;show LiS _ _ _ _ _ _;have:=LiS.start (most:=most) (vs:=vs) (f:=f) (l:=l)
    rwa [if_neg (by have:=J.o;omega),jG] at this
   case round =>
    obtain⟨H,b5⟩:∃x,x=wr:=⟨_,rfl⟩;subst b5;obtain⟨j,y,hj,rfl,S,G,L⟩:=hrel;have c17:=S.o.c17;by_cases b2:j<vn;(have a9:(j:Int)<(vn:Int):=by omega);by_cases he:y.1=0
    . (have t1:((y.1:Int) == 0)=true:=by rw[he];rfl);have hL:Hid (y=f/\yw most vs=j8 most (vs.take j) (vs.drop j)):=by
       rcases L.o with ⟨_,b,c⟩|⟨a,_⟩
       . exact⟨b,c⟩
       . exact absurd he a
      obtain⟨v,a,hv,i1,c1⟩:=StrL.get (HV.o H G.o) j b2;have a7:=List.mem_of_getElem? hv;have hG:Hid (yw most vs=if most<=j then 7 else if !xz v then 8 else if (vs.take j).contains v then 3 else j8 most (vs.take (j+1)) (vs.drop (j+1))):=by
       show _=_;rw[hL.o.2,List.drop_eq_getElem?_toList_append,hv,qg hv];show j8 most (vs.take j) (v :: vs.drop (j+1))=_;rw[Xp,List.length_take,Nat.min_eq_left (by have:=J.o;omega)]
      have Z:Hid (y=f):=hL.o.1;(have a0:Hid (f.1=0):=by show _=_;rw[<- Z.o];exact he);have HN:=jA (HP.o H v a7);have b7:=jA hv;obtain⟨q1,q2⟩:=HY.o H G.o;obtain⟨SV,a8⟩:∃X,Hid (stg v=X):=⟨_,rfl⟩;rw[a8.o] at HN c1;clear hv a7 he L hL;by_cases hm:most<=j
      . have t2:decide ((j:Int)>=(most:Int))=true:=decide_eq_true (by omega);(have hB:Hid (LiS most vs f l (j+1) (z7 y 7 l)):=by show LiS _ _ _ _ _ _;rw[Z.o];exact LiS.bad a0.o (by decide) (by rw[hG.o,if_pos hm]) _);have HF:=jA (jO D y 7 l g H S.o (by decide) 7 rfl);go_wp2_with (go_at_call 30;(with_reducible refine HF.o.mono ?_);rintro e w3 ⟨rfl,S3,G3⟩);go_roundw;(case rel=>exact⟨j+1,_,by omega,by go_num,S3,qC G.o G3,hB⟩);case measure=>simp[intOf];omega
      . have t2:decide ((j:Int)>=(most:Int))=false:=decide_eq_false (by omega);rcases Bool.eq_false_or_eq_true (xz v) with hb|hb
        . rw[hb] at HN;have DK:Below H.heap.size H H.drew:=below_drewN (Below.refl H.heap.size H) 1;have SD:=jA (S.o.keep DK);have GD:=jA (qC G.o (zH DK _));have a1:=jA (vZ (vs.take j) v vo j vc H.drew (StrL.take (HV.o H.drew GD.o) (by omega)));have a4:=ug (vs.take j) v;obtain⟨I,hI⟩:∃X,Hid (jV (vs.take j) v=X):=⟨_,rfl⟩;rw[hI.o] at a1 a4;rw[a8.o] at a1;obtain⟨p1,p2⟩:=HY.o H.drew GD.o;(have hjc:(j:Int)<=(vc:Int):=by omega);by_cases hc:(vs.take j).contains v=true
          . (have hB:Hid (LiS most vs f l (j+1) (z7 y 3 l)):=by show LiS _ _ _ _ _ _;rw[Z.o];exact LiS.bad a0.o (by decide) (by rw[hG.o,if_neg hm,hb,hc];rfl) _);have HF:=jA (jO D y 3 l g H.drew SD.o (by decide) 3 rfl);rw[hc] at a4;clear hc;go_wp2_with (go_at_call 127;(with_reducible refine HN.o.mono ?_);rintro e w3 ⟨rfl,rfl⟩);go_region_held3 (λw'=>w'.cell? ⟨w.heap.size,1,none⟩=some (.slice vo vn vc)/\w'.cell? a=some (.string SV)) (go_keep) (first
              | (go_at_call 32;(with_reducible refine a1.o.mono ?_);rintro e w4 ⟨rfl,rfl⟩)
              | fail)
            go_wp2_with (go_at_call 30;(with_reducible refine HF.o.mono ?_);rintro e w3 ⟨rfl,S3,G3⟩);go_roundw;(case rel=>exact⟨j+1,_,by omega,by go_num,S3,qC GD.o G3,hB⟩);case measure=>simp[intOf];omega
          . have hB:Hid (LiS most vs f l (j+1) y):=by
             left;refine⟨by rw[Z.o];exact a0.o,Z.o,?_⟩;rw[hG.o,if_neg hm,hb,if_neg (by decide),if_neg hc]
            rw[show(vs.take j).contains v=false by simpa using hc] at a4;clear hc;go_wp2_with (go_at_call 127;(with_reducible refine HN.o.mono ?_);rintro e w3 ⟨rfl,rfl⟩);go_region_held3 (λw'=>w'.cell? ⟨w.heap.size,1,none⟩=some (.slice vo vn vc)/\w'.cell? a=some (.string SV)) (go_keep) (first
              | (go_at_call 32;(with_reducible refine a1.o.mono ?_);rintro e w4 ⟨rfl,rfl⟩)
              | fail)
            go_wp2_with fail;go_roundw;(case rel=>exact⟨j+1,y,by omega,by go_num,SD,GD,hB⟩);case measure=>simp[intOf];omega
        . rw[hb] at HN;(have hB:Hid (LiS most vs f l (j+1) (z7 y 8 l)):=by show LiS _ _ _ _ _ _;rw[Z.o];exact LiS.bad a0.o (by decide) (by rw[hG.o,if_neg hm,hb];rfl) _);have HF:=jA (jO D y 8 l g H S.o (by decide) 8 rfl);go_wp2_with (first
            | (go_at_call 127;(with_reducible refine HN.o.mono ?_);rintro e w3 ⟨rfl,rfl⟩)
            | (go_at_call 30;(with_reducible refine HF.o.mono ?_);rintro e w3 ⟨rfl,S3,G3⟩)
            | fail)
          go_roundw;(case rel=>exact⟨j+1,_,by omega,by go_num,S3,qC G.o G3,hB⟩);case measure=>simp[intOf];omega
    (have t1:((y.1:Int) == 0)=false:=by simp[he]);have V:Hid (y=z7 f (yw most vs) l):=by
     rcases L.o with ⟨a,_,_⟩|⟨_,b⟩
     . exact absurd a he
     . exact b
    clear he L
    rotate_left
    (have a9:¬ (j:Int)<(vn:Int):=by omega);have V:Hid (y=z7 f (yw most vs) l):=by
     rcases L.o with ⟨a,b,c⟩|⟨_,b⟩
     . show _=_;rw[c,List.drop_of_length_le (by have:=J.o;omega)];show y=z7 f 0 l;rw[jG,b]
     . exact b
    clear L
    rotate_left
    all_goals
      obtain⟨q1,q2⟩:=HY.o H G.o;have a3:=jA (HV.o H G.o);go_wp2_with (at_builtin;refine ye (B:=H.heap.size) (World.ownsRow_nil _ _ _ _) a3.o (Nat.le_refl _) (by omega) rfl rfl ?_;intro a5 c' w4 O4 B4);go_ret;refine⟨a5,_,c',rfl,by have:=S.o.keep B4;rwa [V.o] at this,qC GU.o (qC G.o (zH B4 _)),?_⟩;have a2:w.heap.size<=H.heap.size:=Nat.le_trans a6.o G.o.size;have:=Row.mono (Row.own (s:=1) O4 (by decide)) (je (Fs:=[9]) a2 (λ_ h=>h));simpa[StrL] using this
theorem gp(k:List UInt8)(w:World) :
    Calls Tryz.prog 71 #[.string (stg k)] w λe w'=>∃ao n c,e=.returned (.slice ao n c)/\StrL (qS w.heap.size [9]) w' ao n c (zb k)/\Below w.heap.size w w'/\(zb k=[]↔ao=none):=by
 by_cases h0:k=zT
 . subst h0;obtain⟨V,m,SL,y⟩:=kQ w [yW,jo,jT] (by decide) (by decide);have J:w.alloc (.cells #[.string ⟨#[100,111,116,115]⟩,.string ⟨#[98,108,97,110,107]⟩,.string ⟨#[109,97,114,107,101,100]⟩] 9)=V:=m;have G:Hid (StrL (qS w.heap.size [9]) V (some ⟨w.heap.size,0,none⟩) 3 3 (zb zT)):=SL;have H:=jA y;clear SL y m;have b0:((stg zT).toList == [115,99,97,110])=true:=j9 zT;go_in;go_wp2_with fail;go_ret;exact⟨_,_,_,rfl,G.o,H.o,by constructor<;>intro h<;>cases h⟩
 have b0:((stg k).toList == [115,99,97,110])=false:=jh h0;by_cases Z:k=qe
 . subst Z;obtain⟨V,m,SL,y⟩:=kQ w [xu,vI] (by decide) (by decide);have J:w.alloc (.cells #[.string ⟨#[99,111,117,110,116]⟩,.string ⟨#[98,97,116,99,104]⟩] 9)=V:=m;have G:Hid (StrL (qS w.heap.size [9]) V (some ⟨w.heap.size,0,none⟩) 2 2 (zb qe)):=SL;have H:=jA y;clear SL y m;have b1:((stg qe).toList == [115,99,97,110,110,101,114,115])=true:=j9 qe;go_in;go_wp2_with fail;go_ret;exact⟨_,_,_,rfl,G.o,H.o,by constructor<;>intro h<;>cases h⟩
 have b1:((stg k).toList == [115,99,97,110,110,101,114,115])=false:=jh Z;by_cases h2:k=qB
 . subst h2;obtain⟨V,m,SL,y⟩:=kQ w [zy] (by decide) (by decide);have J:w.alloc (.cells #[.string ⟨#[110,97,109,101,115]⟩] 9)=V:=m;have G:Hid (StrL (qS w.heap.size [9]) V (some ⟨w.heap.size,0,none⟩) 1 1 (zb qB)):=SL;have H:=jA y;clear SL y m;have b2:((stg qB).toList == [112,114,101,99,105,110,99,116,115])=true:=j9 qB;go_in;go_wp2_with fail;go_ret;exact⟨_,_,_,rfl,G.o,H.o,by constructor<;>intro h<;>cases h⟩
 have b2:((stg k).toList == [112,114,101,99,105,110,99,116,115])=false:=jh h2;by_cases h3:k=qF
 . subst h3;obtain⟨V,m,SL,y⟩:=kQ w [zG,zO,kp,qY,xO,zj,kX,zm] (by decide) (by decide);have J:w.alloc (.cells #[.string ⟨#[109,101,116,104,111,100]⟩,.string ⟨#[115,101,97,116,115]⟩,.string ⟨#[114,97,110,107,115]⟩,.string ⟨#[100,105,103,105,116,115]⟩,.string ⟨#[116,105,101,115]⟩,.string ⟨#[111,118,101,114,118,111,116,101]⟩,.string ⟨#[115,107,105,112]⟩,.string ⟨#[99,97,110,100,105,100,97,116,101,115]⟩] 9)=V:=m;have G:Hid (StrL (qS w.heap.size [9]) V (some ⟨w.heap.size,0,none⟩) 8 8 (zb qF)):=SL;have H:=jA y;clear SL y m;have b3:((stg qF).toList == [99,111,110,116,101,115,116])=true:=j9 qF;go_in;go_wp2_with fail;go_ret;exact⟨_,_,_,rfl,G.o,H.o,by constructor<;>intro h<;>cases h⟩
 have b3:((stg k).toList == [99,111,110,116,101,115,116])=false:=jh h3;by_cases h4:k=qI
 . subst h4;obtain⟨V,m,SL,y⟩:=kQ w [qB,qO] (by decide) (by decide);have J:w.alloc (.cells #[.string ⟨#[112,114,101,99,105,110,99,116,115]⟩,.string ⟨#[99,111,110,116,101,115,116,115]⟩] 9)=V:=m;have G:Hid (StrL (qS w.heap.size [9]) V (some ⟨w.heap.size,0,none⟩) 2 2 (zb qI)):=SL;have H:=jA y;clear SL y m;have b4:((stg qI).toList == [115,116,121,108,101])=true:=j9 qI;go_in;go_wp2_with fail;go_ret;exact⟨_,_,_,rfl,G.o,H.o,by constructor<;>intro h<;>cases h⟩
 have b4:((stg k).toList == [115,116,121,108,101])=false:=jh h4;by_cases h5:k=ql
 . subst h5;obtain⟨V,m,SL,y⟩:=kQ w [jN,yX] (by decide) (by decide);have J:w.alloc (.cells #[.string ⟨#[114,105,115,107]⟩,.string ⟨#[115,101,101,100]⟩] 9)=V:=m;have G:Hid (StrL (qS w.heap.size [9]) V (some ⟨w.heap.size,0,none⟩) 2 2 (zb ql)):=SL;have H:=jA y;clear SL y m;have b5:((stg ql).toList == [97,117,100,105,116])=true:=j9 ql;go_in;go_wp2_with fail;go_ret;exact⟨_,_,_,rfl,G.o,H.o,by constructor<;>intro h<;>cases h⟩
 have b5:((stg k).toList == [97,117,100,105,116])=false:=jh h5;by_cases h6:k=qy
 . subst h6;obtain⟨V,m,SL,y⟩:=kQ w [yg] (by decide) (by decide);have J:w.alloc (.cells #[.string ⟨#[99,101,108,108]⟩] 9)=V:=m;have G:Hid (StrL (qS w.heap.size [9]) V (some ⟨w.heap.size,0,none⟩) 1 1 (zb qy)):=SL;have H:=jA y;clear SL y m;have b6:((stg qy).toList == [112,114,105,118,97,99,121])=true:=j9 qy;go_in;go_wp2_with fail;go_ret;exact⟨_,_,_,rfl,G.o,H.o,by constructor<;>intro h<;>cases h⟩
 have b6:((stg k).toList == [112,114,105,118,97,99,121])=false:=jh h6;have hw:Hid (zb k=[]):=by
  show _=_;unfold zb;rw[List.map_eq_nil_iff,List.filter_eq_nil_iff];intro r hr e;have e':r.kind=k:=by simpa using e
  subst e';unfold zf at hr;simp only[List.mem_cons,List.not_mem_nil,or_false] at hr;rcases hr with rfl|rfl|rfl|rfl|rfl|rfl|rfl|rfl|rfl|rfl|rfl|rfl|rfl|rfl|rfl|rfl|rfl|rfl|rfl<;>simp_all
 obtain⟨K,hK⟩:=jx1 (stg k);rw[hK.o] at b0 b1 b2 b3 b4 b5 b6 |-;rw[hw.o];clear h0 Z h2 h3 h4 h5 h6;go_in;go_wp2_with fail;go_ret;exact⟨none,0,0,rfl,Row.nil _ _ _,Below.refl _ _,by simp⟩
section
variable {w w' : World} {g : Nat} {D : List Value} {f : Nat × Int}
theorem Pu{i:Nat}(h:D.length=17)(hi:i<17):(fC D f)[i]? = D[i]? := by
 unfold fC;rw[List.getElem?_append_left (by omega)]
theorem PE{i:Nat}(h:D.length=17)(hi:i<17)(u:Value):(fC D f).set i u=fC (D.set i u) f:=by
 unfold fC;rw[List.set_append_left _ _ (by omega)]
theorem St.cellD(h:St w g D f)(i:Nat)(hi:i<17):w.cell? ⟨g,i,none⟩=D[i]? := (h.arr.cell i).trans (Pu h.len hi)
theorem St.setD(h:St w g D f)(i:Nat)(hi:i<17)(u v:Value)(hv:D[i]? = some v):∃V,w.setCell ⟨g,i,none⟩ u=V/\St V g (D.set i u) f/\w.grownBy V (some g)/\w.cell? ⟨g,i,none⟩=some v/\w.frozen? ⟨g,i,none⟩=false:=by
 refine⟨_,rfl,⟨?_,by rw[List.length_set];exact h.len⟩,qM w g i u,(h.cellD i hi).trans hv,h.arr.frozen i⟩;have:=h.arr.set i u
 rwa [PE h.len hi] at this
end
theorem Xr(u v L:List UInt8):((stg u++(⟨#[32]⟩:ByteArray)++stg v).toList == L)=decide (u++[32]++v=L):=by
 rw[xH,uI,uI,zL,zL];show(u++[32]++v == L)=_;by_cases h:u++[32]++v=L
 . rw[decide_eq_true h,h];simp
 . rw[decide_eq_false h];simpa using h
structure Upd (w w':World) (e:Elc) (s:ESl) (e':Elc) (s':ESl):Prop where
 title:e'.title=e.title
 conts:e'.conts=e.conts/\s'.co=s.co/\s'.cn=s.cn/\s'.cc=s.cc
 stys:e'.stys=e.stys/\s'.so=s.so/\s'.sn=s.sn/\s'.sc=s.sc
 precs:(e'.precs=e.precs/\s'.po=s.po/\s'.pn=s.pn/\s'.pc=s.pc)\/StrL (qS w.heap.size [9]) w' s'.po s'.pn s'.pc e'.precs
 rat:(e'.rnum=e.rnum/\e'.rden=e.rden/\s'.uo=s.uo/\s'.un=s.un/\s'.uc=s.uc/\s'.dO=s.dO/\s'.dn=s.dn/\s'.dc=s.dc)\/(IntL .u32 (qS w.heap.size [144]) w' s'.uo s'.un s'.uc e'.rnum/\IntL .u32 (qS w.heap.size [144]) w' s'.dO s'.dn s'.dc e'.rden)
namespace Lx
theorem yf{s:ke}(h:(jI s).1=0):jw s.title 60=true/\(zk [] s.blks).1=0/\kg s.blks=false/\(qz (zF s.blks) (jD s.blks) [] (qH qI s.blks)).1=0:=by
 unfold jI at h;cases y:jw s.title 60 with
 | false=>rw[y] at h;simp at h
 | true =>
  rw[y] at h;simp only[Bool.not_true,Bool.false_eq_true,if_false] at h;by_cases m:(zk [] s.blks).1≠0
  . rw[if_pos m] at h;exact absurd h m
  . rw[if_neg m] at h;cases G:kg s.blks with
    | true=>rw[G] at h;simp at h
    | false =>
     rw[G] at h;simp only[Bool.false_eq_true,if_false] at h;exact⟨rfl,by omega,rfl,h⟩
theorem vj{e:List qK}{b:qK}(h:(zP e b).1=0):xm e b=0/\(jZ b.kind [] b.flds).1=0/\jv b=false/\(yr b).1=0:=by
 unfold zP at h;by_cases y:xm e b≠0
 . rw[if_pos y] at h;exact absurd h y
 . rw[if_neg y] at h;by_cases m:(jZ b.kind [] b.flds).1≠0
   . rw[if_pos m] at h;exact absurd h m
   . rw[if_neg m] at h;cases G:jv b with
     | true=>rw[G] at h;simp at h
     | false =>
      rw[G] at h;simp only[Bool.false_eq_true,if_false] at h;exact⟨by omega,by omega,rfl,h⟩
theorem uU{s:ke}(h:(jI s).1=0):∀b∈s.blks,(jZ b.kind [] b.flds).1=0/\jv b=false:=by
 intro b y;obtain⟨i,hi,rfl⟩:=List.mem_iff_getElem.1 y;have m:=WO (yf h).2.1 i _ (List.getElem?_eq_getElem hi);exact⟨(vj m).2.1,(vj m).2.2.1⟩
theorem UQ{b:qK}{k:List UInt8}{r:jj}(h:(jZ b.kind [] b.flds).1=0)(hr:zi b.kind k=some r)(hf:r.form=3)(hh:xQ b k=true):jl (qV b k)=0:=by
 rw[uy];rcases gF b k with ⟨h1,h2⟩|⟨j,h1,h2⟩
 . exfalso;have G:=Ve b k;rw[h1,hh] at G;simp at G
 . have m:=Xh h j _ h2;have y:(qt b k).key=k:=by
    unfold qt j7;cases H:b.flds.find? (λf=>decide (f.key=k)) with
    | none =>
     unfold qt j7 at h2;unfold yY at h1;cases hi:uw k b.flds with
     | none=>rw[hi] at h1;simp at h1
     | some i =>
      obtain⟨f,_,G⟩:=yu hi;rw[H] at G;cases G
    | some f=>simpa using List.find?_some H
   unfold jp at m;rw[y,hr] at m;simp only at m;split at m
   . omega
   . rw[if_neg (by omega)] at m;split at m
     . omega
     . unfold xf at m;rw[if_neg (by omega),if_neg (by omega),if_pos hf] at m;exact m
theorem Q3{v:List UInt8}(h:jl v=0):yC v=true:=by
 unfold jl at h;cases m:yC v with
 | true=>rfl
 | false=>rw[m] at h;simp at h
theorem Q6{b:qK}(h:jv b=false){r:jj}(hr:r∈zf)(hk:r.kind=b.kind)(hd:r.key≠qY):xQ b r.key=true:=by
 unfold jv at h;rw[List.any_eq_false] at h;have:=h r hr;cases m:xQ b r.key with
 | true=>rfl
 | false =>
  exfalso;apply this;rw[m,decide_eq_true hk,decide_eq_false hd];rfl
theorem Zz{b:qK}(h:(jZ b.kind [] b.flds).1=0)(hl:jv b=false)(hk:b.kind=ql):yC (qV b jN)=true/\jl (qV b jN)=0:=by
 have y:xQ b jN=true:=Q6 (r:=⟨ql,jN,3,0,0⟩) hl (List.mem_of_getElem? (show zf[16]? = some _ from rfl)) hk.symm (by decide);have m:=UQ (r:=⟨ql,jN,3,0,0⟩) h (by rw[hk];rfl) rfl y;exact⟨Q3 m,m⟩
theorem WX(b:qK)(k:List UInt8):qt b k=⟨[],[],0⟩\/(qt b k∈b.flds/\((qt b k).key=k)):=by
 unfold qt j7;cases m:b.flds.find? (λf=>decide (f.key=k)) with
 | none=>exact Or.inl rfl
 | some f=>exact Or.inr ⟨List.mem_of_find?_eq_some m,by simpa using List.find?_some m⟩
end Lx
namespace Lx
theorem Kb{m:Nat}(h0:0<m)(h1:m<4294967296):Q.NatMath.qL m=[(m:Int)]:=by
 rw[Q.NatMath.qL,dif_neg (by omega),Nat.mod_eq_of_lt h1,Nat.div_eq_of_lt h1,Q.NatMath.qL,dif_pos rfl]
theorem WY{v:List UInt8}(h:jl v=0):(kr v).s=false/\Q.NatMath.qL (kr v).p=J1 v/\Q.NatMath.qL (kr v).q=J2 v:=by
 have m:=Q3 h;obtain⟨V,hD⟩:=gS m;have lA:=uh V;have lD:=uh hD;unfold jl at h;rw[m] at h;simp only[Bool.not_true,Bool.false_eq_true,if_false] at h;unfold kr J1 J2 Uy;generalize zz (ku v)=a at *
 generalize zz (kY v)=d at *
 have h3:d≠0/\d<=1000*a:=by
  by_cases H:d=0
  . rw[H] at h;simp at h
  . refine⟨H,?_⟩;by_cases e2:1000*a<d
    . simp[e2] at h
    . omega
 have G:0<a:=by omega
 have y:0<Nat.gcd a d:=Nat.gcd_pos_of_pos_left _ G;have p1:0<a / Nat.gcd a d:=Nat.div_pos (Nat.le_of_dvd G (Nat.gcd_dvd_left a d)) y;have J:0<d / Nat.gcd a d:=Nat.div_pos (Nat.le_of_dvd (by omega) (Nat.gcd_dvd_right a d)) y;have Z:a / Nat.gcd a d<=a:=Nat.div_le_self _ _;have q2:d / Nat.gcd a d<=d:=Nat.div_le_self _ _;unfold Q.RatMath.nf;simp only;rw[if_neg (by omega)];exact⟨rfl,Kb p1 (Nat.lt_of_le_of_lt Z (show a<4294967296 by omega)),Kb J (Nat.lt_of_le_of_lt q2 (show d<4294967296 by omega))⟩
theorem yO{bs:List qK}(h:kg bs=false){r:ZG}(hr:r∈zr):qH r.kind bs≠[]:=by
 unfold kg at h;rw[List.any_eq_false] at h;intro e;apply h r hr;rw[e];rfl
theorem yx{k:List UInt8}{bs:List qK}(h:qH k bs≠[]):zJ k bs∈bs/\(zJ k bs).kind=k:=by
 unfold zJ;rw[List.getLast?_eq_some_getLast h];have:=List.mem_filter.1 (List.getLast_mem h);exact⟨this.1,of_decide_eq_true this.2⟩
theorem Fi{s:ke}(h:(jI s).1=0):kM (zF s.blks) (jD s.blks) s.title s.blks=kN s:=by
 have H:=yO (yf h).2.2.1 (List.mem_of_getElem? (show zr[5]? = some _ from rfl));have m:qH ql s.blks≠[]:=by first|exact H|exact yO (yf h).2.2.1 (r:=⟨ql,1,false⟩) (by simp[zr])
 obtain⟨y,V⟩:=yx m;obtain⟨Z,G⟩:=uU h _ y;obtain⟨r1,r2,J⟩:=WY (Zz Z G V).2;unfold kM kN;rw[if_neg m,if_neg m,if_neg m,r1,r2,J]
end Lx
end Go.Proofs.YtkefajjcpcoajaaGreatDoor
namespace Go.Proofs.YtkefajjcpcoajaaGreatDoor.Q
open Go.RowKit NatMath RatMath
theorem Pv(s1 s2:Bool)(a1 b1 a2 b2:Option Addr)(n1 c1 m1 d1 n2 c2 m2 d2:Nat)(xs1 ys1 xs2 ys2:List Int)(w:World)
    (h1:Lst .u32 w a1 n1 c1 xs1) (k1:Lst .u32 w b1 m1 d1 ys1) (h2:Lst .u32 w a2 n2 c2 xs2) (k2:Lst .u32 w b2 m2 d2 ys2) :
    Calls Tryz.prog 35 #[.agg #[.bool s1,.slice a1 n1 c1,.slice b1 m1 d1],.agg #[.bool s2,.slice a2 n2 c2,.slice b2 m2 d2]] w λe w'=>e=.returned (.bool (decide (s1=s2/\xs1=xs2/\ys1=ys2)))/\Below w.heap.size w w':=by
 have Z:=jA (λw1 (hb:Below w.heap.size w w1)=>Pj a1 a2 n1 c1 n2 c2 xs1 xs2 w1 (h1.below hb) (h2.below hb));have H2:=jA (λw1 (hb:Below w.heap.size w w1)=>Pj b1 b2 m1 d1 m2 d2 ys1 ys2 w1 (k1.below hb) (k2.below hb));clear h1 k1 h2 k2;by_cases hs:s1=s2
 . subst hs;(have a0:(s1 == s1)=true:=by simp);by_cases V:xs1=xs2
   . (have m:decide (xs1=xs2)=true:=by simpa using V);obtain⟨r,hr⟩:∃r,Hid (r=decide (s1=s1/\xs1=xs2/\ys1=ys2)):=⟨_,rfl⟩;(have a5:Hid (r=decide (ys1=ys2)):=by show _=_;rw[hr.o];simp[V]);rw[<- hr.o];rw[m] at Z;rw[<- a5.o] at H2;clear V m;go_in;go_wp2_with fail;obtain⟨W0,G,kA,kB,bb⟩:=Yy w 32 #[.bool s1,.slice a1 n1 c1,.slice b1 m1 d1] #[.bool s1,.slice a2 n2 c2,.slice b2 m2 d2];rw[<- G];obtain⟨y0,y1,y2⟩:=kA.cells3;obtain⟨a4,a3,a6⟩:=kB.cells3;refine(Z.o W0 bb).mono ?_;rintro e w' ⟨rfl,q,rfl⟩;have H:=below_drewN bb q;clear G;go_wp2_with fail;refine(H2.o _ H).mono ?_;rintro e w' ⟨rfl,q2,rfl⟩;have J:=below_drewN H q2;go_wp2_with fail;go_ret
     first
     | exact⟨rfl,J⟩
     | (rw[World.drewN_drewN] at J;exact⟨rfl,J⟩)
   . (have m:decide (xs1=xs2)=false:=by simpa using V);(have y:decide (s1=s1/\xs1=xs2/\ys1=ys2)=false:=by simp[V]);rw[m] at Z;rw[y];clear V m y H2;go_in;go_wp2_with fail;obtain⟨W0,G,kA,kB,bb⟩:=Yy w 32 #[.bool s1,.slice a1 n1 c1,.slice b1 m1 d1] #[.bool s1,.slice a2 n2 c2,.slice b2 m2 d2];rw[<- G];obtain⟨y0,y1,y2⟩:=kA.cells3;obtain⟨a4,a3,a6⟩:=kB.cells3;refine(Z.o W0 bb).mono ?_;rintro e w' ⟨rfl,q,rfl⟩;have H:=below_drewN bb q;clear G;go_wp2_with fail;go_ret;exact⟨rfl,H⟩
 . (have a0:(s1 == s2)=false:=by simpa using hs);(have y:decide (s1=s2/\xs1=xs2/\ys1=ys2)=false:=by simp[hs]);rw[y];clear hs y Z H2;go_in;go_wp2_with fail;go_ret;exact⟨rfl,((Below.refl w.heap.size w).alloc (Nat.le_refl _) _).alloc (by simp) _⟩
