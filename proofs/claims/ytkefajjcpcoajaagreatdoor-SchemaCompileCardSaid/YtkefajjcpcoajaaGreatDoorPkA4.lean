/- -/
import Derived.Test.YtkefajjcpcoajaaGreatDoorPkA0
import Derived.Test.YtkefajjcpcoajaaGreatDoorPkA3
set_option linter.all false
namespace Go.Proofs.YtkefajjcpcoajaaGreatDoor
open Go.RowKit Lx
variable {w w':World}{S:World->Nat->Prop}{lo g B s n:Nat}{E T:TypeId}{v:Value}{us:List Value}
def jR(S:World->Nat->Prop):Prop:=∀ (w w':World) (k:Nat),k<w.heap.size->w'.heap[k]? = w.heap[k]? -> S w k->S w' k
def Keeps(S:World->Nat->Prop)(w w':World):Prop:=∀k,k<w.heap.size->S w k->w'.heap[k]? = w.heap[k]?
def qU:World->Nat->Prop:=λ_ _=>True
def qS(lo:Nat)(Es:List TypeId):World->Nat->Prop:=λw k=>lo<=k/\∃E∈Es,∃cs fz,w.heap[k]? = some (.cells cs E fz)
theorem qJ:jR qU:=λ_ _ _ _ _ _=>trivial
theorem qE(lo:Nat)(Es:List TypeId):jR (qS lo Es):=λw w' k _ he ⟨h1,E,hE,cs,fz,h⟩=>⟨h1,E,hE,cs,fz,he.trans h⟩
theorem qD(S:World->Nat->Prop)(h:Below w.heap.size w w'):Keeps S w w':=λk hk _=>h.block k hk
theorem jL{row:Option Nat}(h:w.grownBy w' row)(hS:∀k,S w k->row≠some k):Keeps S w w':=λk hk hs=>h.block k hk (λe=>hS k hs e.symm)
theorem Qx{Es:List TypeId}(h:w.grownBy w' (some g))(hg:g<lo):Keeps (qS lo Es) w w':=jL h (λk hs e=>by injection e with e;have:=hs.1;omega)
theorem zS{Es:List TypeId}(hO:w.ownsRow B E s v n us)(h:w.grownBy w' v.ownBlock)(hE:E∉Es):Keeps (qS lo Es) w w':=by
 refine jL h (λk ⟨_,E',hE',cs,fz,hk⟩ e=>?_);rcases hO.2 with ⟨hv,_⟩|⟨g,cap,cur,hv,_,hh,_⟩
 . rw[hv] at e;cases e
 . rw[hv] at e;have e':some g=some k:=e;injection e' with e';subst e';rw[hh] at hk;injection hk with hk;injection hk with _ h2 _;exact hE (h2 ▸ hE')
theorem Hi{p:Addr}(u:Value)(hS:∀k,S w k->p.block≠k):Keeps S w (w.setCell p u):=λk _ hs=>Below.heap_setCell w _ u k (λe=>hS k hs (by rw[e]))
theorem zd{Es:List TypeId}{i:Nat}{cs:List Value}(h:Arr w g T cs)(hT:T∉Es)(u:Value):Keeps (qS lo Es) w (w.setCell ⟨g,i,none⟩ u):=by
 refine Hi u (λk ⟨_,E',hE',cs',fz,hk⟩ e=>?_);have e':g=k:=e;subst e';rw[show w.heap[g]? = _ from h] at hk;injection hk with hk;injection hk with _ h2 _;exact hT (h2 ▸ hE')
theorem Keeps.trans(hS:jR S){a b d:World}(h:Keeps S a b)(hz:a.heap.size<=b.heap.size)(k:Keeps S b d):Keeps S a d :=
 λj hj hs=>(k j (Nat.lt_of_lt_of_le hj hz) (hS a b j hj (h j hj hs) hs)).trans (h j hj hs)
structure Row (S:World->Nat->Prop) (s:Nat) (w:World) (ao:Option Addr) (n c:Nat) (us:List Value):Prop where
 len:us.length=n*s
 cap:n<=c
 room:c<=9223372036854775807
 isSome:0<n->∃a,ao=some a
 cell:∀i u,us[i]? = some u->w.cell? (pt ao i)=some u/\S w (pt ao i).block
 nil0:ao=none->c=0
section
variable {S T : World -> Nat -> Prop} {s n c : Nat} {w w' : World} {ao : Option Addr} {us : List Value}
theorem Row.keep(h:Row S s w ao n c us)(hS:jR S)(hk:Keeps S w w'):Row S s w' ao n c us :=
 ⟨h.len,h.cap,h.room,h.isSome,λi u hu=>by
  obtain⟨h1,h2⟩:=h.cell i u hu;have hb:=World.block_lt_of_cell? w _ h1;have he:=hk _ hb h2;exact⟨(World.cell?_of_block he).trans h1,hS w w' _ hb he h2⟩,h.nil0⟩
theorem Row.mono(h:Row S s w ao n c us)(hm:∀k,S w k->T w k):Row T s w ao n c us:=⟨h.len,h.cap,h.room,h.isSome,λi u hu=>⟨(h.cell i u hu).1,hm _ (h.cell i u hu).2⟩,h.nil0⟩
theorem Row.nil(S:World->Nat->Prop)(s:Nat)(w:World):Row S s w none 0 0 []:=⟨by simp,Nat.le_refl _,by omega,λh=>absurd h (by omega),λi u hu=>by simp at hu,λ_=>rfl⟩
theorem Row.own(h:w.ownsRow B E s (.slice ao n c) n us)(hs:0<s):Row (qS B [E]) s w ao n c us:=by
 have y:=h.1;rcases h.2 with ⟨hv,h0⟩|⟨g,cap,cur,hv,hg,hh,hn,hc,hz,ht⟩
 . injection hv with h1 h2 h3;subst h1 h2 h3;have:us=[]:=List.eq_nil_of_length_eq_zero (by omega);subst this;exact Row.nil _ _ _
 . injection hv with h1 h2 h3;subst h1;subst h3;refine⟨y,hn,by unfold maxLen at hc;omega,λ_=>⟨_,rfl⟩,λi u m=>?_,λe=>by cases e⟩;rw[jm];have hi:i<us.length:=(List.getElem?_eq_some_iff.1 m).1;have:=cell_of_row w g i _ _ _ hh;refine⟨?_,hg,E,List.mem_singleton.2 rfl,_,_,hh⟩;rw[this,<- m,<- ht,List.getElem?_take,if_pos (by omega),Array.getElem?_toList]
end
theorem yQ(ht:Tryz.prog.underlying T=some (.slice E))(he:(Tryz.prog.info? E).map (·.size)=some s){ao:Option Addr}{c:Nat}(h:Row S s w ao n c us)(i:Nat)(hi:i<n)(W:World) :
    (Instr.indexAt T (.slice ao n c) (.int .i64 (i:Int))).run Tryz.prog W=.ok (.pointer (some (pt ao (i*s)))) W:=by
 obtain⟨a,rfl⟩:=h.isSome (by omega);obtain⟨y,m,G⟩:=Option.map_eq_some_iff.1 he;have H:(0:Int)<=(i:Int)/\(i:Int)<(n:Int):=by omega
 simp[Instr.indexAt,run_underlying ht,asIntOf,sizeOf,typeInfo,m,G,pt,hi]
def StrL(S:World->Nat->Prop)(w:World)(ao:Option Addr)(n c:Nat)(vs:List (List UInt8)):Prop:=Row S 1 w ao n c (vs.map λv=>.string (stg v))
def FCells(q:Bool)(S:World->Nat->Prop)(w:World):List Fld->List Value->Prop
  | [],us=>us=[]
  | f :: fs,us=>∃vo vn vc z r,us=.string (stg f.key) :: .slice vo vn vc :: .int .i64 z :: r/\StrL S w vo vn vc f.vals/\(q=true->z=(f.line:Int))/\FCells q S w fs r
def FldL(q:Bool)(S:World->Nat->Prop)(w:World)(ao:Option Addr)(n c:Nat)(fs:List Fld):Prop:=∃us,Row S 3 w ao n c us/\FCells q S w fs us
def BCells(q:Bool)(S:World->Nat->Prop)(w:World):List Blc->List Value->Prop
  | [],us=>us=[]
  | b :: bs,us=>∃fo fn fc z r,us=.string (stg b.kind) :: .string (stg b.name) :: .slice fo fn fc :: .int .i64 z :: r/\FldL q S w fo fn fc b.flds/\(q=true->z=(b.line:Int))/\BCells q S w bs r
def BlkL(q:Bool)(S:World->Nat->Prop)(w:World)(ao:Option Addr)(n c:Nat)(bs:List Blc):Prop:=∃us,Row S 4 w ao n c us/\BCells q S w bs us
section
variable {q : Bool} {S T : World -> Nat -> Prop} {n c : Nat} {w w' : World} {ao : Option Addr} {us : List Value}
theorem FCells.keep(hS:jR S)(hk:Keeps S w w'):∀ {fs:List Fld} {us:List Value},FCells q S w fs us->FCells q S w' fs us
  | [],_,h=>h
  | _ :: _,_,⟨vo,vn,vc,z,r,h1,h2,h3,h4⟩=>⟨vo,vn,vc,z,r,h1,Row.keep h2 hS hk,h3,FCells.keep hS hk h4⟩
theorem FCells.mono(hm:∀k,S w k->T w k):∀ {fs:List Fld} {us:List Value},FCells q S w fs us->FCells q T w fs us
  | [],_,h=>h
  | _ :: _,_,⟨vo,vn,vc,z,r,h1,h2,h3,h4⟩=>⟨vo,vn,vc,z,r,h1,Row.mono h2 hm,h3,FCells.mono hm h4⟩
theorem FCells.append:∀ {fs:List Fld} {us:List Value} {gs:List Fld} {vs:List Value},FCells q S w fs us->FCells q S w gs vs->FCells q S w (fs++gs) (us++vs)
  | [],_,_,_,h,k=>by
   have:_=[]:=h;subst this;exact k
  | _ :: _,_,_,_,⟨vo,vn,vc,z,r,h1,h2,h3,h4⟩,k=>by
   subst h1;exact⟨vo,vn,vc,z,_,rfl,h2,h3,FCells.append h4 k⟩
theorem FldL.keep{fs:List Fld}(h:FldL q S w ao n c fs)(hS:jR S)(hk:Keeps S w w'):FldL q S w' ao n c fs:=by
 obtain⟨us,y,m⟩:=h;exact⟨us,y.keep hS hk,m.keep hS hk⟩
theorem FldL.mono{fs:List Fld}(h:FldL q S w ao n c fs)(hm:∀k,S w k->T w k):FldL q T w ao n c fs:=by
 obtain⟨us,y,m⟩:=h;exact⟨us,y.mono hm,m.mono hm⟩
theorem BCells.keep(hS:jR S)(hk:Keeps S w w'):∀ {bs:List Blc} {us:List Value},BCells q S w bs us->BCells q S w' bs us
  | [],_,h=>h
  | _ :: _,_,⟨vo,vn,vc,z,r,h1,h2,h3,h4⟩=>⟨vo,vn,vc,z,r,h1,FldL.keep h2 hS hk,h3,BCells.keep hS hk h4⟩
theorem BCells.mono(hm:∀k,S w k->T w k):∀ {bs:List Blc} {us:List Value},BCells q S w bs us->BCells q T w bs us
  | [],_,h=>h
  | _ :: _,_,⟨vo,vn,vc,z,r,h1,h2,h3,h4⟩=>⟨vo,vn,vc,z,r,h1,FldL.mono h2 hm,h3,BCells.mono hm h4⟩
theorem BCells.append:∀ {bs:List Blc} {us:List Value} {gs:List Blc} {vs:List Value},BCells q S w bs us->BCells q S w gs vs->BCells q S w (bs++gs) (us++vs)
  | [],_,_,_,h,k=>by
   have:_=[]:=h;subst this;exact k
  | _ :: _,_,_,_,⟨vo,vn,vc,z,r,h1,h2,h3,h4⟩,k=>by
   subst h1;exact⟨vo,vn,vc,z,_,rfl,h2,h3,BCells.append h4 k⟩
theorem BlkL.keep{bs:List Blc}(h:BlkL q S w ao n c bs)(hS:jR S)(hk:Keeps S w w'):BlkL q S w' ao n c bs:=by
 obtain⟨us,y,m⟩:=h;exact⟨us,y.keep hS hk,m.keep hS hk⟩
theorem BlkL.mono{bs:List Blc}(h:BlkL q S w ao n c bs)(hm:∀k,S w k->T w k):BlkL q T w ao n c bs:=by
 obtain⟨us,y,m⟩:=h;exact⟨us,y.mono hm,m.mono hm⟩
theorem StrL.len{vs:List (List UInt8)}(h:StrL S w ao n c vs):vs.length=n:=by have:=Row.len h;simpa using this
theorem StrL.at{vs:List (List UInt8)}(h:StrL S w ao n c vs)(i:Nat)(v:List UInt8)(hv:vs[i]? = some v):w.cell? (pt ao i)=some (.string (stg v)) :=
 (Row.cell h i _ (by rw[List.getElem?_map,hv];rfl)).1
end
section
variable {w : World} {ops : Array Oper} {rest : List Oper} {a : Act} {Q : Exit -> Act -> World -> Prop} {d : Option Tmp} {p q : Operand} {ty : TypeId} {pos : String} {after : Array Edge}
theorem vl{bytes:Nat}{z:Value}(ht:Tryz.prog.underlying T=some (.slice E))(hinfo:(Tryz.prog.info? E).map (λi=>(i.zero,i.size,i.bytes))=some (some z,s,bytes))(hzs:z.cells.size=s)(hs:0<s)(hby:bytes<=64)
    {B:Nat} {ao:Option Addr} {n c:Nat} {us vs:List Value} (hO:w.ownsRow B E s (.slice ao n c) n us) (hB:B<=w.heap.size) (hn:n<=1048576) (hv:vs.length=s) (h1:∀u∈vs,u.oneCell'=true)
    (hp:a.eval p=.slice ao n c) (hq:a.eval q=.slice (some ⟨w.heap.size,0,none⟩) 1 1)
    (h:∀ao' c' w',w'.ownsRow B E s (.slice ao' (n+1) c') (n+1) (us++vs)->w.grownBy w' (Value.slice ao n c).ownBlock->Below B w w'->wpList Tryz.prog ops Q rest (a.put d (.slice ao' (n+1) c')) w') :
    wpList Tryz.prog ops Q (⟨d,.call { callee:=.builtin .append,args:=#[p,q],argTypes:=#[T,T] },ty,pos,after,none⟩ :: rest) a (w.alloc (.cells vs.toArray E)):=by
 obtain⟨i0,hi,Z,J,V⟩:=info_parts hinfo;have m:Below w.heap.size w (w.alloc (.cells vs.toArray E)):=(Below.refl _ _).alloc (Nat.le_refl _) _;have g1:w.grownBy (w.alloc (.cells vs.toArray E)) (Value.slice ao n c).ownBlock:=⟨m.os,m.tape,m.output,m.size,λk H _=>m.block k H⟩;have y:Arr (w.alloc (.cells vs.toArray E)) w.heap.size E vs:=Arr.new w _ vs;have a0:(w.alloc (.cells vs.toArray E)).ownsRow B E s (.slice ao n c) n us:=World.ownsRow.kept (row:=none) hO ⟨m.os,m.tape,m.output,m.size,λj hj _=>m.block j hj⟩ (by cases (Value.slice ao n c).ownBlock<;>simp);have a1:(n+1)*bytes<=(1048576+1)*64:=Nat.mul_le_mul (by omega) hby;refine wpList_append_own _ rfl p q T rfl B E i0 z s bytes ht hi Z J V hzs hs _ n _ hp a0 ⟨w.heap.size,0,none⟩ 1 1 vs hq (by omega) ?_ h1 (by unfold maxLen;omega) (by omega) (by simp;omega) ?_
 . intro j u hj;have e:=jm w.heap.size j;simp only[pt,Option.getD_some] at e;rw[e,y.cell];exact hj
 . intro v' w' G hg _;obtain⟨av,cv,hv⟩:∃ao c,v'=.slice ao (n+1) c:=by
    rcases G.2 with ⟨hv,h0⟩|⟨g,cap,_,hv,_⟩
    . omega
    . exact⟨_,cap,hv⟩
   subst hv;exact h av cv w' G (qC g1 hg) ((m.mono hB).trans ((Below.refl _ _).grown hg (by simp;omega) (λk H=>(World.ownsRow.lt hO k H).1)))
end
theorem qQ(h:w.ownsRow B E s v n us)(hb:Below w.heap.size w w'):w'.ownsRow B E s v n us :=
 World.ownsRow.kept (row:=none) h ⟨hb.os,hb.tape,hb.output,hb.size,λj hj _=>hb.block j hj⟩ (by cases v.ownBlock<;>simp)
theorem wn(h:w.ownsRow B E s v n us)(hg:w.grownBy w' (some g))(hl:g<B):w'.ownsRow B E s v n us:=by
 refine World.ownsRow.kept (row:=some g) h hg ?_;cases m:v.ownBlock with
 | none=>exact Or.inl rfl
 | some k=>exact Or.inr (λe=>by injection e with e;have:=(World.ownsRow.lt h k m).1;omega)
theorem qM(w:World)(g i:Nat)(u:Value):w.grownBy (w.setCell ⟨g,i,none⟩ u) (some g) :=
 ⟨rfl,rfl,rfl,by simp[World.setCell],λk _ hk=>Below.heap_setCell w _ u k (λe=>hk (by rw[e]))⟩
def put3(w:World)(g:Nat)(u0 u1 u2:Value):World:=((w.setCell ⟨g,0,none⟩ u0).setCell ⟨g,1,none⟩ u1).setCell ⟨g,2,none⟩ u2
def put4(w:World)(g:Nat)(u0 u1 u2 u3:Value):World:=(((w.setCell ⟨g,0,none⟩ u0).setCell ⟨g,1,none⟩ u1).setCell ⟨g,2,none⟩ u2).setCell ⟨g,3,none⟩ u3
section
variable {w : World} {g : Nat} {t : TypeId} {v0 v1 v2 v3 : Value}
theorem Arr.store3(h:Arr w g t [v0,v1,v2])(u0 u1:Value) :
    w.cell? ⟨g,0,none⟩=some v0/\w.frozen? ⟨g,0,none⟩=false/\(w.setCell ⟨g,0,none⟩ u0).cell? ⟨g,1,none⟩=some v1/\(w.setCell ⟨g,0,none⟩ u0).frozen? ⟨g,1,none⟩=false /\
    ((w.setCell ⟨g,0,none⟩ u0).setCell ⟨g,1,none⟩ u1).cell? ⟨g,2,none⟩=some v2/\((w.setCell ⟨g,0,none⟩ u0).setCell ⟨g,1,none⟩ u1).frozen? ⟨g,2,none⟩=false :=
 ⟨h.cell 0,h.frozen 0,(h.set 0 u0).cell 1,(h.set 0 u0).frozen 1,((h.set 0 u0).set 1 u1).cell 2,((h.set 0 u0).set 1 u1).frozen 2⟩
theorem Arr.put3(h:Arr w g t [v0,v1,v2])(u0 u1 u2:Value):Arr (put3 w g u0 u1 u2) g t [u0,u1,u2]:=((h.set 0 u0).set 1 u1).set 2 u2
theorem Arr.store4(h:Arr w g t [v0,v1,v2,v3])(u0 u1 u2:Value) :
    w.cell? ⟨g,0,none⟩=some v0/\w.frozen? ⟨g,0,none⟩=false/\(w.setCell ⟨g,0,none⟩ u0).cell? ⟨g,1,none⟩=some v1/\(w.setCell ⟨g,0,none⟩ u0).frozen? ⟨g,1,none⟩=false /\
    ((w.setCell ⟨g,0,none⟩ u0).setCell ⟨g,1,none⟩ u1).cell? ⟨g,2,none⟩=some v2/\((w.setCell ⟨g,0,none⟩ u0).setCell ⟨g,1,none⟩ u1).frozen? ⟨g,2,none⟩=false /\
    (((w.setCell ⟨g,0,none⟩ u0).setCell ⟨g,1,none⟩ u1).setCell ⟨g,2,none⟩ u2).cell? ⟨g,3,none⟩=some v3/\(((w.setCell ⟨g,0,none⟩ u0).setCell ⟨g,1,none⟩ u1).setCell ⟨g,2,none⟩ u2).frozen? ⟨g,3,none⟩=false :=
 ⟨h.cell 0,h.frozen 0,(h.set 0 u0).cell 1,(h.set 0 u0).frozen 1,((h.set 0 u0).set 1 u1).cell 2,((h.set 0 u0).set 1 u1).frozen 2,(((h.set 0 u0).set 1 u1).set 2 u2).cell 3,(((h.set 0 u0).set 1 u1).set 2 u2).frozen 3⟩
theorem Arr.put4(h:Arr w g t [v0,v1,v2,v3])(u0 u1 u2 u3:Value):Arr (put4 w g u0 u1 u2 u3) g t [u0,u1,u2,u3]:=(((h.set 0 u0).set 1 u1).set 2 u2).set 3 u3
end
section
variable {a w : World} {row : Option Nat} {b : Nat}
theorem kT(h:a.grownBy w row)(hb:a.heap.size<=b)(j:Nat)(u:Value):a.grownBy (w.setCell ⟨b,j,none⟩ u) row :=
 ⟨h.os,h.tape,h.output,by simpa[World.setCell] using h.size,λk hk hne=>(Below.heap_setCell w _ u k (λe=>by have e':k=b:=e;omega)).trans (h.block k hk hne)⟩
theorem yR(h:a.grownBy w row)(hb:a.heap.size<=b)(u0 u1:Value):a.grownBy (put2 w b u0 u1) row:=kT (kT h hb 0 u0) hb 1 u1
theorem yS(h:a.grownBy w row)(hb:a.heap.size<=b)(u0 u1 u2:Value):a.grownBy (put3 w b u0 u1 u2) row:=kT (kT (kT h hb 0 u0) hb 1 u1) hb 2 u2
theorem uX(h:a.grownBy w row)(hb:a.heap.size<=b)(u0 u1 u2 u3:Value):a.grownBy (put4 w b u0 u1 u2 u3) row:=kT (kT (kT (kT h hb 0 u0) hb 1 u1) hb 2 u2) hb 3 u3
theorem qu(h:Below a.heap.size a w)(row:Option Nat):a.grownBy w row:=⟨h.os,h.tape,h.output,h.size,λk hk _=>h.block k hk⟩
theorem YM(h:a.grownBy w (some g))(hg:B<=g)(hB:B<=a.heap.size):Below B a w:=⟨h.os,h.tape,h.output,h.size,λk hk=>h.block k (by omega) (λe=>by injection e with e;omega)⟩
theorem Hj(w:World)(g:Nat)(u0 u1:Value):(put2 w g u0 u1).heap.size=w.heap.size:=by simp[put2,World.setCell]
theorem Hk(w:World)(g:Nat)(u0 u1 u2:Value):(put3 w g u0 u1 u2).heap.size=w.heap.size:=by simp[put3,World.setCell]
theorem Hl(w:World)(g:Nat)(u0 u1 u2 u3:Value):(put4 w g u0 u1 u2 u3).heap.size=w.heap.size:=by simp[put4,World.setCell]
theorem qq{b d:World}(h:a.grownBy b (some g))(k:b.grownBy d (some g)):a.grownBy d (some g) :=
 ⟨k.os.trans h.os,k.tape.trans h.tape,k.output.trans h.output,Nat.le_trans h.size k.size,λi hi hne=>(k.block i (Nat.lt_of_lt_of_le hi h.size) hne).trans (h.block i hi hne)⟩
theorem Arr.grown{t:TypeId}{cs:List Value}(h:Arr a b t cs)(hg:a.grownBy w (some g))(hne:b≠g):Arr w b t cs:=(hg.block b h.lt (λe=>by injection e with e;exact hne e)).trans h
end
theorem qG(w:World)(T:TypeId)(cs:List Value):∃V,w.alloc (.cells cs.toArray T)=V/\Arr V w.heap.size T cs/\Below w.heap.size w V/\V.heap.size=w.heap.size+1 :=
 ⟨_,rfl,Arr.new w T cs,(Below.refl _ _).alloc (Nat.le_refl _) _,by simp⟩
section
variable {w : World} {g : Nat} {t : TypeId} {v0 v1 v2 v3 : Value}
theorem zl(h:Arr w g t [v0,v1])(u0 u1:Value):∃V,(w.setCell ⟨g,0,none⟩ u0).setCell ⟨g,1,none⟩ u1=V/\Hid (V=put2 w g u0 u1)/\Arr V g t [u0,u1] /\
    w.cell? ⟨g,0,none⟩=some v0/\w.frozen? ⟨g,0,none⟩=false/\(w.setCell ⟨g,0,none⟩ u0).cell? ⟨g,1,none⟩=some v1/\(w.setCell ⟨g,0,none⟩ u0).frozen? ⟨g,1,none⟩=false :=
 ⟨_,rfl,rfl,h.put2 u0 u1,h.store2 u0⟩
theorem jY(h:Arr w g t [v0,v1,v2])(u0 u1 u2:Value):∃V,((w.setCell ⟨g,0,none⟩ u0).setCell ⟨g,1,none⟩ u1).setCell ⟨g,2,none⟩ u2=V/\Hid (V=put3 w g u0 u1 u2)/\Arr V g t [u0,u1,u2] /\
    w.cell? ⟨g,0,none⟩=some v0/\w.frozen? ⟨g,0,none⟩=false/\(w.setCell ⟨g,0,none⟩ u0).cell? ⟨g,1,none⟩=some v1/\(w.setCell ⟨g,0,none⟩ u0).frozen? ⟨g,1,none⟩=false /\
    ((w.setCell ⟨g,0,none⟩ u0).setCell ⟨g,1,none⟩ u1).cell? ⟨g,2,none⟩=some v2/\((w.setCell ⟨g,0,none⟩ u0).setCell ⟨g,1,none⟩ u1).frozen? ⟨g,2,none⟩=false :=
 ⟨_,rfl,rfl,h.put3 u0 u1 u2,h.store3 u0 u1⟩
theorem yT(h:Arr w g t [v0,v1,v2,v3])(u0 u1 u2 u3:Value):∃V,(((w.setCell ⟨g,0,none⟩ u0).setCell ⟨g,1,none⟩ u1).setCell ⟨g,2,none⟩ u2).setCell ⟨g,3,none⟩ u3=V/\Hid (V=put4 w g u0 u1 u2 u3)/\Arr V g t [u0,u1,u2,u3] /\
    w.cell? ⟨g,0,none⟩=some v0/\w.frozen? ⟨g,0,none⟩=false/\(w.setCell ⟨g,0,none⟩ u0).cell? ⟨g,1,none⟩=some v1/\(w.setCell ⟨g,0,none⟩ u0).frozen? ⟨g,1,none⟩=false /\
    ((w.setCell ⟨g,0,none⟩ u0).setCell ⟨g,1,none⟩ u1).cell? ⟨g,2,none⟩=some v2/\((w.setCell ⟨g,0,none⟩ u0).setCell ⟨g,1,none⟩ u1).frozen? ⟨g,2,none⟩=false /\
    (((w.setCell ⟨g,0,none⟩ u0).setCell ⟨g,1,none⟩ u1).setCell ⟨g,2,none⟩ u2).cell? ⟨g,3,none⟩=some v3/\(((w.setCell ⟨g,0,none⟩ u0).setCell ⟨g,1,none⟩ u1).setCell ⟨g,2,none⟩ u2).frozen? ⟨g,3,none⟩=false :=
 ⟨_,rfl,rfl,h.put4 u0 u1 u2 u3,h.store4 u0 u1 u2⟩
end
theorem xj(w:World)(T:TypeId)(z0 z1 u0 u1:Value):∃V V2,w.alloc (.cells #[z0,z1] T)=V/\(V.setCell ⟨w.heap.size,0,none⟩ u0).setCell ⟨w.heap.size,1,none⟩ u1=V2/\Arr V2 w.heap.size T [u0,u1]/\Below w.heap.size w V2/\V2.heap.size=w.heap.size+1 /\
    V.cell? ⟨w.heap.size,0,none⟩=some z0/\V.frozen? ⟨w.heap.size,0,none⟩=false/\(V.setCell ⟨w.heap.size,0,none⟩ u0).cell? ⟨w.heap.size,1,none⟩=some z1/\(V.setCell ⟨w.heap.size,0,none⟩ u0).frozen? ⟨w.heap.size,1,none⟩=false:=by
 obtain⟨V,J,A,B,y⟩:=qG w T [z0,z1];obtain⟨V2,H,m,G,f⟩:=zl A u0 u1;exact⟨V,V2,J,H,G,by rw[m.o];exact jX B (Nat.le_refl _) u0 u1,by rw[m.o,Hj,y],f⟩
theorem ze(w:World)(T:TypeId)(z0 z1 z2 u0 u1 u2:Value):∃V V2,w.alloc (.cells #[z0,z1,z2] T)=V/\((V.setCell ⟨w.heap.size,0,none⟩ u0).setCell ⟨w.heap.size,1,none⟩ u1).setCell ⟨w.heap.size,2,none⟩ u2=V2/\Arr V2 w.heap.size T [u0,u1,u2]/\Below w.heap.size w V2/\V2.heap.size=w.heap.size+1 /\
    V.cell? ⟨w.heap.size,0,none⟩=some z0/\V.frozen? ⟨w.heap.size,0,none⟩=false/\(V.setCell ⟨w.heap.size,0,none⟩ u0).cell? ⟨w.heap.size,1,none⟩=some z1/\(V.setCell ⟨w.heap.size,0,none⟩ u0).frozen? ⟨w.heap.size,1,none⟩=false /\
    ((V.setCell ⟨w.heap.size,0,none⟩ u0).setCell ⟨w.heap.size,1,none⟩ u1).cell? ⟨w.heap.size,2,none⟩=some z2/\((V.setCell ⟨w.heap.size,0,none⟩ u0).setCell ⟨w.heap.size,1,none⟩ u1).frozen? ⟨w.heap.size,2,none⟩=false:=by
 obtain⟨V,J,A,B,y⟩:=qG w T [z0,z1,z2];obtain⟨V2,H,m,G,f⟩:=jY A u0 u1 u2;exact⟨V,V2,J,H,G,by rw[m.o];exact(B.setCell (p:=⟨_,0,none⟩) (Nat.le_refl _) u0 |>.setCell (p:=⟨_,1,none⟩) (Nat.le_refl _) u1 |>.setCell (p:=⟨_,2,none⟩) (Nat.le_refl _) u2),by rw[m.o,Hk,y],f⟩
theorem xl(w:World)(T:TypeId)(z0 z1 z2 z3 u0 u1 u2 u3:Value):∃V V2,w.alloc (.cells #[z0,z1,z2,z3] T)=V/\(((V.setCell ⟨w.heap.size,0,none⟩ u0).setCell ⟨w.heap.size,1,none⟩ u1).setCell ⟨w.heap.size,2,none⟩ u2).setCell ⟨w.heap.size,3,none⟩ u3=V2/\Arr V2 w.heap.size T [u0,u1,u2,u3]/\Below w.heap.size w V2/\V2.heap.size=w.heap.size+1 /\
    V.cell? ⟨w.heap.size,0,none⟩=some z0/\V.frozen? ⟨w.heap.size,0,none⟩=false/\(V.setCell ⟨w.heap.size,0,none⟩ u0).cell? ⟨w.heap.size,1,none⟩=some z1/\(V.setCell ⟨w.heap.size,0,none⟩ u0).frozen? ⟨w.heap.size,1,none⟩=false /\
    ((V.setCell ⟨w.heap.size,0,none⟩ u0).setCell ⟨w.heap.size,1,none⟩ u1).cell? ⟨w.heap.size,2,none⟩=some z2/\((V.setCell ⟨w.heap.size,0,none⟩ u0).setCell ⟨w.heap.size,1,none⟩ u1).frozen? ⟨w.heap.size,2,none⟩=false /\
    (((V.setCell ⟨w.heap.size,0,none⟩ u0).setCell ⟨w.heap.size,1,none⟩ u1).setCell ⟨w.heap.size,2,none⟩ u2).cell? ⟨w.heap.size,3,none⟩=some z3/\(((V.setCell ⟨w.heap.size,0,none⟩ u0).setCell ⟨w.heap.size,1,none⟩ u1).setCell ⟨w.heap.size,2,none⟩ u2).frozen? ⟨w.heap.size,3,none⟩=false:=by
 obtain⟨V,J,A,B,y⟩:=qG w T [z0,z1,z2,z3];obtain⟨V2,H,m,G,f⟩:=yT A u0 u1 u2 u3;exact⟨V,V2,J,H,G,by rw[m.o];exact(B.setCell (p:=⟨_,0,none⟩) (Nat.le_refl _) u0 |>.setCell (p:=⟨_,1,none⟩) (Nat.le_refl _) u1 |>.setCell (p:=⟨_,2,none⟩) (Nat.le_refl _) u2 |>.setCell (p:=⟨_,3,none⟩) (Nat.le_refl _) u3),by rw[m.o,Hl,y],f⟩
end Go.Proofs.YtkefajjcpcoajaaGreatDoor
namespace Go.Proofs.YtkefajjcpcoajaaGreatDoor.Lx
variable {r l:List Tok}
inductive PR (α:Type) where
 | ok (a:α) (r:List Tok)
 | bad (ln:Nat)
def PR.bind{α β:Type}:PR α->(α->List Tok->PR β)->PR β
  | .ok a r,f=>f a r
  | .bad ln,_=>.bad ln
theorem PR.bind_ok{α β:Type}(a:α)(r:List Tok)(f:α->List Tok->PR β):(PR.ok a r).bind f=f a r:=rfl
def vm:List Tok->Nat
  | []=>0
  | t :: _=>t.line
def Qe(c:UInt8)(t:Tok):Bool:=decide (t.kind=4)&&decide (t.text=[c])
def jU(c:UInt8):List Tok->Bool
  | []=>false
  | t :: _=>Qe c t
def xr(k:Nat):List Tok->Bool
  | []=>false
  | t :: _=>decide (t.kind=k)
def ja(k:Nat):List Tok->PR (List UInt8)
  | []=>.bad 0
  | t :: r=>if t.kind=k then .ok t.text r else .bad t.line
def kU(c:UInt8):List Tok->PR Unit
  | []=>.bad 0
  | t :: r=>if Qe c t then .ok () r else .bad t.line
def jf(l:List Tok):PR (List UInt8) :=
 if xr 1 l then ja 1 l
 else if xr 3 l then ja 3 l
 else (ja 2 l).bind λa r=>if jU 47 r then (ja 2 (r.drop 1)).bind λb r2=>.ok (a++47 :: b) r2 else .ok a r
def vp:Nat->List Tok->PR (List (List UInt8))
  | 0,l=>.ok [] l
  | k+1,l=>if jU 44 l then (jf (l.drop 1)).bind λv r=>(vp k r).bind λvs r2=>.ok (v :: vs) r2 else .ok [] l
def xD(l:List Tok):PR Fld :=
 (ja 1 l).bind λkey r=>(jf r).bind λv r2=>(vp r2.length r2).bind λvs r3=>(kU 59 r3).bind λ_ r4=>.ok ⟨key,v :: vs,vm l⟩ r4
def uY:Nat->List Tok->PR (List Fld)
  | 0,l=>.ok [] l
  | k+1,l=>if jU 125 l then .ok [] l else (xD l).bind λf r=>(uY k r).bind λfs r2=>.ok (f :: fs) r2
def wJ(l:List Tok):PR (List UInt8):=if xr 1 l then ja 1 l else .ok [] l
def xe(l:List Tok):PR Blc :=
 (ja 1 l).bind λkind r=>(wJ r).bind λname r2=>(kU 123 r2).bind λ_ r3=>(uY (r3.length+1) r3).bind λfs r4=>(kU 125 r4).bind λ_ r5=>.ok ⟨kind,name,fs,vm l⟩ r5
def uZ:Nat->List Tok->PR (List Blc)
  | 0,l=>.ok [] l
  | k+1,l=>if jU 125 l then .ok [] l else (xe l).bind λb r=>(uZ k r).bind λbs r2=>.ok (b :: bs) r2
def Cc:List Tok->PR Unit
  | []=>.bad 0
  | t :: r=>if t.kind=1/\t.text=UW then .ok () r else .bad t.line
def xZ(l:List Tok):PR Src :=
 (Cc l).bind λ_ r=>(ja 3 r).bind λtitle r2=>(kU 123 r2).bind λ_ r3=>(uZ (r3.length+1) r3).bind λbs r4=>(kU 125 r4).bind λ_ r5=>(ja 5 r5).bind λ_ r6=>.ok ⟨title,bs⟩ r6
inductive Ans where
 | ok (s:Src)
 | err (ln:Nat)
def Qf(l:List UInt8):Ans :=
 match jz l 1 with
 | .err ln=>.err ln
 | .ok ts ln=>match xZ (ts++[⟨5,[],ln⟩]) with
  | .ok s _=>.ok s
  | .bad m=>.err m
structure Mg (t:Tok):Prop where
 word:t.kind=1->zv t.text=true
 num:t.kind=2->zg t.text=true
 str:t.kind=3->t.text.all z8=true
theorem Uj(l:List UInt8):∀x,xB l=some x->x.1.all z8=true/\x.1.length<=x.2:=by
 induction l using xB.induct with
 | case1=>intro x h;simp[xB] at h
 | case2 c r h=>intro x m;rw[zt,if_pos h] at m;injection m with m;subst m;exact⟨rfl,Nat.zero_le _⟩
 | case3 c h1 h2 h3=>intro x h;rw[zt,if_neg h1,if_pos h2,if_pos h3] at h;cases h
 | case4 c h1 h2 h3 d q h4 ih =>
  intro x h;rw[zt,if_neg h1,if_pos h2,if_pos h3] at h;simp only[if_pos h4] at h;obtain⟨y,G,rfl⟩:=Option.map_eq_some_iff.1 h;obtain⟨H,J⟩:=ih y G;have V:z8 d=true:=by
   simp only[xg,Bool.or_eq_true,decide_eq_true_eq] at h4;rcases h4 with h4|h4<;>simp[z8,h4]
  refine⟨by rw[List.all_cons,V,H];rfl,?_⟩;simp only[List.length_cons];omega
 | case5 c h1 h2 h3 d q h4=>intro x h;rw[zt,if_neg h1,if_pos h2,if_pos h3] at h;simp only[if_neg h4] at h;cases h
 | case6 c r h1 h2 h3 ih =>
  intro x h;rw[zt,if_neg h1,if_pos h2,if_neg h3] at h;obtain⟨y,G,rfl⟩:=Option.map_eq_some_iff.1 h;obtain⟨H,J⟩:=ih y G;refine⟨by rw[List.all_cons,h2,H];rfl,?_⟩;simp only[List.length_cons];omega
 | case7 c r h1 h2=>intro x h;rw[zt,if_neg h1,if_neg h2] at h;cases h
theorem Hm(l:List UInt8)(x:Nat×List UInt8×Nat)(ln:Nat)(h:xE l=some x):Mg ⟨x.1,x.2.1,ln⟩/\x.2.1.length<=x.2.2:=by
 unfold xE at h;split at h
 . rename_i hw;injection h with h;subst h;exact⟨⟨λ_=>hw,λe=>(by cases e),λe=>(by cases e)⟩,Nat.le_refl _⟩
 . split at h
   . rename_i hw;injection h with h;subst h;exact⟨⟨λe=>(by cases e),λ_=>hw,λe=>(by cases e)⟩,Nat.le_refl _⟩
   . cases l with
     | nil=>cases h
     | cons c r =>
      simp only at h;split at h
      . injection h with h;subst h;exact⟨⟨λe=>(by cases e),λe=>(by cases e),λe=>(by cases e)⟩,Nat.le_refl _⟩
      . split at h
        . obtain⟨y,G,rfl⟩:=Option.map_eq_some_iff.1 h;obtain⟨H,m⟩:=Uj r y G;exact⟨⟨λe=>(by cases e),λe=>(by cases e),λ_=>H⟩,Nat.le_succ_of_le m⟩
        . cases h
def wgt:List Tok->Nat
  | []=>0
  | t :: r=>2*t.text.length+20+wgt r
theorem uB:∀ (n:Nat) (l:List UInt8) (ln:Nat) (ts:List Tok) (m:Nat),l.length<=n->jz l ln=.ok ts m->(∀t∈ts,Mg t)/\wgt ts<=40*l.length
  | n,[],ln,ts,m,_,h=>by
   rw[ur] at h;injection h with h _;subst h;exact⟨λt ht=>(by cases ht),Nat.zero_le _⟩
  | 0,c :: r,_,_,_,hn,_=>absurd hn (by simp)
  | n+1,c :: r,ln,ts,m,hn,h=>by
   (have hr:r.length<=n:=by simpa using hn);rw[kP] at h;split at h
   . have V:=vA Qk r;obtain⟨y,H⟩:=uB n _ ln ts m (Nat.le_trans V hr) h;exact⟨y,by rw[List.length_cons];omega⟩
   . split at h
     . obtain⟨y,H⟩:=uB n _ _ ts m hr h;exact⟨y,by rw[List.length_cons];omega⟩
     . cases G:xE (c :: r) with
       | none=>rw[G] at h;cases h
       | some x =>
        rw[G] at h;simp only at h;have hp:=ZZ _ _ G;have Z:=VQ c r x G;obtain⟨o1,o2⟩:=Hm _ x ln G;cases J:jz (r.drop (x.2.2-1)) ln with
        | err e=>rw[J] at h;cases h
        | ok us e =>
         rw[J] at h;injection h with h _;obtain⟨y,H⟩:=uB n _ ln us e (by rw[List.length_drop];omega) J;rw[List.length_drop] at H;rw[List.length_cons] at Z;subst h;refine⟨λt ht=>?_,?_⟩
         . rcases List.mem_cons.1 ht with rfl|ht
           . exact o1
           . exact y t ht
         . rw[wgt,List.length_cons];simp only;omega
theorem PR.bind_eq{α β:Type}{p:PR α}{f:α->List Tok->PR β}{b:β}(h:p.bind f=.ok b r):∃a q,p=.ok a q/\f a q=.ok b r:=by
 cases p with
 | ok a q=>exact⟨a,q,rfl,h⟩
 | bad ln=>cases h
theorem uD{k:Nat}{x:List UInt8}(h:ja k l=.ok x r):∃t,l=t :: r/\t.kind=k/\x=t.text:=by
 cases l with
 | nil=>cases h
 | cons t q =>
  have h:(if t.kind=k then PR.ok t.text q else PR.bad t.line)=.ok x r:=h;split at h
  . rename_i hk;injection h with h1 h2;exact⟨t,by rw[h2],hk,h1.symm⟩
  . cases h
theorem Cd{c:UInt8}{x:Unit}(h:kU c l=.ok x r):∃t,l=t :: r/\Qe c t=true:=by
 cases l with
 | nil=>cases h
 | cons t q =>
  have h:(if Qe c t=true then PR.ok () q else PR.bad t.line)=.ok x r:=h;split at h
  . rename_i hk;injection h with h1 h2;exact⟨t,by rw[h2],hk⟩
  . cases h
def En(m:Nat):Tok:=⟨5,[],m⟩
section
variable {α β : Type} {m : Nat}
def vq(p:List Tok->PR α):Prop:=∀l a r,p l=.ok a r->r.length<=l.length
def ES(m:Nat)(p:List Tok->PR α):Prop:=p [En m]=.bad m\/∃a,p [En m]=.ok a [En m]
theorem xp(a:α):vq (λl=>PR.ok a l):=λl b r h=>by injection h with _ h;rw[h];exact Nat.le_refl _
theorem jS{p:List Tok->PR α}{f:α->List Tok->PR β}(hp:vq p)(hf:∀a,vq (f a)):vq (λl=>(p l).bind f):=λl b r h=>by
 obtain⟨a,q,h1,h2⟩:=PR.bind_eq h;exact Nat.le_trans (hf a q b r h2) (hp l a q h1)
theorem uE{b:List Tok->Bool}{p q:List Tok->PR α}(hp:vq p)(hq:vq q):vq (λl=>if b l then p l else q l):=λl a r h=>by
 simp only at h;split at h
 . exact hp l a r h
 . exact hq l a r h
theorem Kn{p:List Tok->PR α}(hp:vq p):vq (λl=>p (l.drop 1)):=λl a r h=>Nat.le_trans (hp _ a r h) (by rw[List.length_drop];omega)
end
theorem vX(k:Nat):vq (ja k):=λl a r h=>by
 obtain⟨t,rfl,_⟩:=uD h;rw[List.length_cons];omega
theorem ua(c:UInt8):vq (kU c):=λl a r h=>by
 obtain⟨t,rfl,_⟩:=Cd h;rw[List.length_cons];omega
def Ko(a:List UInt8)(l:List Tok):PR (List UInt8):=if jU 47 l then (ja 2 (l.drop 1)).bind λb r2=>.ok (a++47 :: b) r2 else .ok a l
theorem gN:jf=λl=>if xr 1 l then ja 1 l else (λl=>if xr 3 l then ja 3 l else (ja 2 l).bind Ko) l:=rfl
theorem Kp(a:List UInt8):vq (Ko a):=uE (Kn (p:=λl=>(ja 2 l).bind λb r2=>.ok (a++47 :: b) r2) (jS (vX 2) λ_=>xp _)) (xp a)
theorem gO:vq jf:=uE (vX 1) (uE (vX 3) (jS (vX 2) Kp))
theorem Kq:∀k,vq (vp k)
  | 0=>xp []
  | k+1=>uE (Kn (p:=λl=>(jf l).bind λv r=>(vp k r).bind λvs r2=>.ok (v :: vs) r2) (jS gO λ_=>jS (Kq k) λ_=>xp _)) (xp [])
theorem JQ{v:List UInt8}(h:jf l=.ok v r):r.length<l.length:=by
 unfold jf at h;split at h
 . obtain⟨t,rfl,_⟩:=uD h;rw[List.length_cons];omega
 . split at h
   . obtain⟨t,rfl,_⟩:=uD h;rw[List.length_cons];omega
   . obtain⟨a,q,m,y⟩:=PR.bind_eq h;obtain⟨t,rfl,_⟩:=uD m;have:=Kp a q v r y;rw[List.length_cons];omega
theorem Hn:∀ (n:Nat) (l:List Tok) (k k':Nat),l.length<=n->l.length<=k->l.length<=k'->vp k l=vp k' l:=by
 intro n;induction n with
 | zero =>
  intro l k k' y _ _;have:l=[]:=List.eq_nil_of_length_eq_zero (by omega);subst this;cases k<;>cases k'<;>rfl
 | succ n ih =>
  intro l k k' y H m;cases l with
  | nil=>cases k<;>cases k'<;>rfl
  | cons t l =>
   rw[List.length_cons] at y H m;obtain⟨k,rfl⟩:∃j,k=j+1:=⟨k-1,by omega⟩;obtain⟨k',rfl⟩:∃j,k'=j+1:=⟨k'-1,by omega⟩;rw[vp,vp];split
   . rw[List.drop_succ_cons,List.drop_zero];cases G:jf l with
     | bad e=>rfl
     | ok v r =>
      have:=JQ G;rw[PR.bind_ok,PR.bind_ok,ih r k k' (by omega) (by omega) (by omega)]
   . rfl
def Kr(l:List Tok):PR (List (List UInt8)):=vp l.length l
theorem QD{k:Nat}(h:l.length<=k):Kr l=vp k l:=Hn l.length l _ _ (Nat.le_refl _) (Nat.le_refl _) h
theorem JR:vq Kr:=λl=>Kq l.length l
def Uk(n:Nat)(l:List Tok):PR Fld :=
 (ja 1 l).bind λkey r=>(jf r).bind λv r2=>(Kr r2).bind λvs r3=>(kU 59 r3).bind λ_ r4=>.ok ⟨key,v :: vs,n⟩ r4
theorem Ce(l:List Tok):xD l=Uk (vm l) l:=rfl
theorem YN(n:Nat):vq (Uk n):=jS (vX 1) λ_=>jS gO λ_=>jS JR λ_=>jS (ua 59) λ_=>xp _
theorem Ul:vq xD:=λl=>YN (vm l) l
theorem YO{f:Fld}(h:xD l=.ok f r):r.length<l.length:=by
 obtain⟨key,m,y,h⟩:=PR.bind_eq h;obtain⟨t,rfl,_⟩:=uD y;have:=(jS gO λ_=>jS JR λ_=>jS (ua 59) λ_=>xp _:vq λr=>(jf r).bind λv J=>(Kr J).bind λvs H=>(kU 59 H).bind λ_ G=>PR.ok (⟨key,v :: vs,vm (t :: m)⟩:Fld) G) m f r h;rw[List.length_cons];omega
def kV{α:Type}(p:List Tok->PR α):Nat->List Tok->PR (List α)
  | 0,l=>.ok [] l
  | k+1,l=>if jU 125 l then .ok [] l else (p l).bind λf r=>(kV p k r).bind λfs r2=>.ok (f :: fs) r2
theorem wt:∀k,uY k=kV xD k
  | 0=>rfl
  | k+1=>by
   funext l;rw[uY,kV,wt k]
theorem wu:∀k,uZ k=kV xe k
  | 0=>rfl
  | k+1=>by
   funext l;rw[uZ,kV,wu k]
section
variable {α : Type} {p : List Tok -> PR α} {m : Nat}
theorem JS(hp:vq p):∀k,vq (kV p k)
  | 0=>xp []
  | k+1=>uE (xp []) (jS hp λ_=>jS (JS hp k) λ_=>xp _)
theorem Um(hlt:∀l a r,p l=.ok a r->r.length<l.length):∀ (n:Nat) (l:List Tok) (k k':Nat),l.length<=n->l.length<k->l.length<k'->kV p k l=kV p k' l:=by
 intro n;induction n with
 | zero =>
  intro l k k' H G y;obtain⟨k,rfl⟩:∃j,k=j+1:=⟨k-1,by omega⟩;obtain⟨k',rfl⟩:∃j,k'=j+1:=⟨k'-1,by omega⟩;rw[kV,kV];split
  . rfl
  . cases m:p l with
    | bad e=>rfl
    | ok v r=>have:=hlt l v r m;omega
 | succ n ih =>
  intro l k k' H G y;obtain⟨k,rfl⟩:∃j,k=j+1:=⟨k-1,by omega⟩;obtain⟨k',rfl⟩:∃j,k'=j+1:=⟨k'-1,by omega⟩;rw[kV,kV];split
  . rfl
  . cases m:p l with
    | bad e=>rfl
    | ok v r =>
     have:=hlt l v r m;rw[PR.bind_ok,PR.bind_ok,ih r k k' (by omega) (by omega) (by omega)]
end
end Go.Proofs.YtkefajjcpcoajaaGreatDoor.Lx
namespace Go.Proofs.YtkefajjcpcoajaaGreatDoor.Lx
def we(l:List Tok):PR (List Fld):=kV xD (l.length+1) l
theorem VA:vq we:=λl=>JS Ul (l.length+1) l
theorem Ho:vq wJ:=uE (vX 1) (xp [])
def Un(n:Nat)(l:List Tok):PR Blc :=
 (ja 1 l).bind λkind r=>(wJ r).bind λname r2=>(kU 123 r2).bind λ_ r3=>(we r3).bind λfs r4=>(kU 125 r4).bind λ_ r5=>.ok ⟨kind,name,fs,n⟩ r5
theorem YP(l:List Tok):xe l=Un (vm l) l:=by
 unfold xe Un we;simp only[wt]
theorem Nm(kind name:List UInt8)(fs:List Fld)(n:Nat):vq λr4=>(kU 125 r4).bind λ_ r5=>PR.ok (⟨kind,name,fs,n⟩:Blc) r5:=jS (ua 125) λ_=>xp _
theorem Nn(kind name:List UInt8)(n:Nat):vq λr3=>(we r3).bind λfs r4=>(kU 125 r4).bind λ_ r5=>PR.ok (⟨kind,name,fs,n⟩:Blc) r5:=jS VA λfs=>Nm kind name fs n
theorem Np(kind name:List UInt8)(n:Nat):vq λr2=>(kU 123 r2).bind λ_ r3=>(we r3).bind λfs r4=>(kU 125 r4).bind λ_ r5=>PR.ok (⟨kind,name,fs,n⟩:Blc) r5:=jS (ua 123) λ_=>Nn kind name n
theorem Nq(kind:List UInt8)(n:Nat):vq λr=>(wJ r).bind λname r2=>(kU 123 r2).bind λ_ r3=>(we r3).bind λfs r4=>(kU 125 r4).bind λ_ r5=>PR.ok (⟨kind,name,fs,n⟩:Blc) r5:=jS Ho λname=>Np kind name n
theorem YQ{l:List Tok}{b:Blc}{r:List Tok}(h:xe l=.ok b r):r.length<l.length:=by
 rw[YP] at h;obtain⟨kind,y,m,h⟩:=PR.bind_eq h;obtain⟨t,rfl,_⟩:=uD m;have:=Nq kind _ y b r h;rw[List.length_cons];omega
def ShT(t u:Tok):Prop:=t.kind=u.kind/\(t.kind=4->t.text=u.text)
inductive Sh:List Tok->List Tok->Prop
  | nil:Sh [] []
  | cons {t u:Tok} {l k:List Tok}:ShT t u->Sh l k->Sh (t :: l) (u :: k)
def R2{α β:Type}(p:List Tok->PR α)(q:List Tok->PR β):Prop:=∀l k a r,Sh l k->p l=.ok a r->∃b s,q k=.ok b s/\Sh r s
theorem Hp(l:List UInt8)(x:Nat×List UInt8×Nat)(h:xE l=some x):x.1≠5:=by
 unfold xE at h;split at h
 . injection h with h;subst h;exact(by decide:(1:Nat)≠5)
 . split at h
   . injection h with h;subst h;exact(by decide:(2:Nat)≠5)
   . cases l with
     | nil=>cases h
     | cons c r =>
      simp only at h;split at h
      . injection h with h;subst h;exact(by decide:(4:Nat)≠5)
      . split at h
        . obtain⟨y,m,rfl⟩:=Option.map_eq_some_iff.1 h;exact(by decide:(3:Nat)≠5)
        . cases h
theorem yU:∀ (n:Nat) (l:List UInt8) (ln:Nat) (ts:List Tok) (m:Nat),l.length<=n->jz l ln=.ok ts m->ln<=m/\∀t∈ts,ln<=t.line/\t.line<=m/\t.kind≠5
  | n,[],ln,ts,m,_,h=>by
   rw[ur] at h;injection h with h h2;subst h h2;exact⟨Nat.le_refl _,λt ht=>by cases ht⟩
  | 0,c :: r,_,_,_,hn,_=>absurd hn (by simp)
  | n+1,c :: r,ln,ts,m,hn,h=>by
   (have hr:r.length<=n:=by simpa using hn);rw[kP] at h;split at h
   . exact yU n _ ln ts m (Nat.le_trans (vA _ _) hr) h
   . split at h
     . obtain⟨y,h2⟩:=yU n _ _ ts m hr h;(have J:ln<=yh c ln:=by unfold yh;split<;>omega);exact⟨Nat.le_trans J y,λt ht=>⟨Nat.le_trans J (h2 t ht).1,(h2 t ht).2⟩⟩
     . cases G:xE (c :: r) with
       | none=>rw[G] at h;cases h
       | some x =>
        rw[G] at h;simp only at h;cases H:jz (r.drop (x.2.2-1)) ln with
        | err e=>rw[H] at h;cases h
        | ok us e =>
         rw[H] at h;injection h with h h3;subst h h3;obtain⟨y,h2⟩:=yU n _ ln us e (by rw[List.length_drop];omega) H;refine⟨y,λt ht=>?_⟩;rcases List.mem_cons.1 ht with rfl|ht
         . exact⟨Nat.le_refl _,y,Hp _ x G⟩
         . exact h2 t ht
structure EndsT (ts:List Tok):Prop where
 last:∀i t,ts[i]? = some t->(t.kind=5↔i+1=ts.length)
 line:∀t∈ts,1<=t.line
theorem Cf{l:List UInt8}{ts:List Tok}{m:Nat}(h:jz l 1=.ok ts m):EndsT (ts++[⟨5,[],m⟩]):=by
 obtain⟨J,H⟩:=yU l.length l 1 ts m (Nat.le_refl _) h;refine⟨λi t y=>?_,λt y=>?_⟩
 . rw[List.length_append];rcases Nat.lt_or_ge i ts.length with hi|hi
   . rw[List.getElem?_append_left hi] at y;have:=(H t (List.mem_of_getElem? y)).2.2;simp only[List.length_cons,List.length_nil];omega
   . rw[List.getElem?_append_right hi] at y;have G:i-ts.length=0:=by
      rcases Nat.eq_zero_or_pos (i-ts.length) with G|G
      . exact G
      . rw[List.getElem?_eq_none (by simp;omega)] at y;cases y
     rw[G] at y;(have:t=⟨5,[],m⟩:=by simpa using y.symm);subst this;simp only[List.length_cons,List.length_nil,true_iff];omega
 . rcases List.mem_append.1 y with y|y
   . exact(H t y).1
   . (have:t=⟨5,[],m⟩:=by simpa using y);subst this;exact J
theorem EndsT.next{ts:List Tok}(h:EndsT ts){i:Nat}{t:Tok}(ht:ts[i]? = some t)(hk:t.kind≠5):i+1<ts.length:=by
 have y:=(List.getElem?_eq_some_iff.1 ht).1;have m:=(h.last i t ht).2;rcases Nat.lt_or_ge (i+1) ts.length with h3|h3
 . exact h3
 . exact absurd (m (by omega)) hk
end Go.Proofs.YtkefajjcpcoajaaGreatDoor.Lx
