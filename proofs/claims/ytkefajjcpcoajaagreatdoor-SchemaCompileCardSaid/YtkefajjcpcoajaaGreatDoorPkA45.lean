/- -/
import Derived.Test.YtkefajjcpcoajaaGreatDoorPkA0
import Derived.Test.YtkefajjcpcoajaaGreatDoorPkA42
import Derived.Test.YtkefajjcpcoajaaGreatDoorPkA43
set_option linter.all false
namespace Go.Proofs.YtkefajjcpcoajaaGreatDoor.Lx
variable {P U':List (List UInt8)}{v:List UInt8}
structure LkU (P:List (List UInt8)) (U:List (List UInt8)):Prop where
 nodup:U.Nodup
 sub:∀x∈U,x∈P
theorem LkU.nil(P:List (List UInt8)):LkU P []:=⟨List.nodup_nil,λ_ h=>by cases h⟩
theorem LkU.add{U:List (List UInt8)}(h:LkU P U)(h1:P.contains v=true)(h2:U.contains v=false):LkU P (U++[v]):=by
 have H:v∈P:=by simpa using h1
 have J:v∉U:=by simpa using h2
 refine⟨?_,λx m=>?_⟩
 . rw[List.nodup_append];exact⟨h.nodup,by simp,λa G b y e=>by rw[List.mem_singleton] at y;subst y;subst e;exact J G⟩
 . rw[List.mem_append,List.mem_singleton] at m;rcases m with m|rfl
   . exact h.sub x m
   . exact H
section
variable {P C U : List (List UInt8)} {ln : Int} {vs : List (List UInt8)} {v : List UInt8} {j : Nat}
theorem Y4(hv:vs[j]? = some v)(h1:P.contains v=true)(h2:U.contains v=false):jB P ln U (vs.drop j)=jB P ln (U++[v]) (vs.drop (j+1)):=by
 have e:vs.drop j=v :: vs.drop (j+1):=by rw[List.drop_eq_getElem?_toList_append,hv];rfl
 rw[e,wK,h1,h2];rfl
theorem Y6(hv:vs[j]? = some v)(h1:P.contains v=false):jB P ln U (vs.drop j)=((2,ln),U):=by
 have e:vs.drop j=v :: vs.drop (j+1):=by rw[List.drop_eq_getElem?_toList_append,hv];rfl
 rw[e,wK,h1];rfl
theorem VG(hv:vs[j]? = some v)(h1:P.contains v=true)(h2:U.contains v=true):jB P ln U (vs.drop j)=((3,ln),U):=by
 have e:vs.drop j=v :: vs.drop (j+1):=by rw[List.drop_eq_getElem?_toList_append,hv];rfl
 rw[e,wK,h1,h2];rfl
theorem Up(h:vs.length<=j):jB P ln U (vs.drop j)=((0,0),U):=by rw[List.drop_of_length_le h];rfl
theorem Jv(b:qK)(r:List qK):qz P C U (b :: r) =
    if (jB P (zx b qB) U (qN b qB)).1.1≠0 then (jB P (zx b qB) U (qN b qB)).1
    else if (vu C (zx b qO) (qN b qO)).1≠0 then vu C (zx b qO) (qN b qO)
    else qz P C (jB P (zx b qB) U (qN b qB)).2 r:=rfl
end
section
variable {P C U : List (List UInt8)} {S : List qK} {i : Nat} {b : qK}
theorem wM(hb:S[i]? = some b):qz P C U (S.drop i) =
    if (jB P (zx b qB) U (qN b qB)).1.1≠0 then (jB P (zx b qB) U (qN b qB)).1
    else if (vu C (zx b qO) (qN b qO)).1≠0 then vu C (zx b qO) (qN b qO)
    else qz P C (jB P (zx b qB) U (qN b qB)).2 (S.drop (i+1)):=by
 have e:S.drop i=b :: S.drop (i+1):=by rw[List.drop_eq_getElem?_toList_append,hb];rfl
 rw[e,Jv]
theorem ww(hb:S[i]? = some b){e:Nat×Int}(h:jB P (zx b qB) U (qN b qB)=(e,U'))(he:e.1≠0):qz P C U (S.drop i)=e:=by
 rw[wM hb,h,if_pos he]
theorem Jw(hb:S[i]? = some b)(h:jB P (zx b qB) U (qN b qB)=((0,0),U'))(hv:v∈qN b qO)(hc:C.contains v=false):qz P C U (S.drop i)=(2,zx b qO):=by
 have y:vu C (zx b qO) (qN b qO)=(2,zx b qO):=by
  unfold vu;rw[if_neg];intro m;rw[List.all_eq_true] at m;rw[m v hv] at hc;cases hc
 rw[wM hb,h,y];rfl
theorem Jx(hb:S[i]? = some b)(h:jB P (zx b qB) U (qN b qB)=((0,0),U'))(hc:∀v∈qN b qO,C.contains v=true):qz P C U (S.drop i)=qz P C U' (S.drop (i+1)):=by
 have m:vu C (zx b qO) (qN b qO)=(0,0):=by
  unfold vu;rw[if_pos (List.all_eq_true.2 hc)]
 rw[wM hb,h,m];rfl
theorem VH(h:S.length<=i)(hP:P.Nodup)(hU:LkU P U):qz P C U (S.drop i)=if P.any (λp => !U.contains p) then (6,0) else (0,0):=by
 rw[List.drop_of_length_le h];show(if U.length<P.length then _ else _)=_;by_cases m:U.length<P.length
 . obtain⟨p,G,y⟩:=(Kw hP hU.nodup hU.sub).1 m;have:P.any (λp => !U.contains p)=true:=List.any_eq_true.2 ⟨p,G,by simpa using y⟩;rw[if_pos m,if_pos this]
 . have:¬ P.any (λp => !U.contains p)=true:=λh=>by
    obtain⟨p,G,y⟩:=List.any_eq_true.1 h;exact m ((Kw hP hU.nodup hU.sub).2 ⟨p,G,by simpa using y⟩)
   rw[if_neg m,if_neg this]
end
def xx(P U:List (List UInt8)):List Bool:=P.map λp=>U.contains p
theorem Cz{U:List (List UInt8)}(hP:P.Nodup){k:Nat}(hv:P[k]? = some v):(xx P U).set k true=xx P (U++[v]):=by
 apply List.ext_getElem?;intro j;unfold xx;rw[List.getElem?_set,List.getElem?_map,List.getElem?_map];by_cases y:k=j
 . subst y;rw[if_pos rfl,hv,if_pos (by rw[List.length_map];exact(List.getElem?_eq_some_iff.1 hv).1)];simp
 . rw[if_neg y];cases hp:P[j]? with
   | none=>rfl
   | some p =>
    have m:p≠v:=λe=>by
     obtain⟨G,V⟩:=List.getElem?_eq_some_iff.1 hv;obtain⟨H,J⟩:=List.getElem?_eq_some_iff.1 hp;have Z:=List.pairwise_iff_getElem.1 hP;rcases Nat.lt_or_gt_of_ne y with hlt|hlt
     . exact Z k j G H hlt (by rw[V,J,e])
     . exact Z j k H G hlt (by rw[V,J,e])
    simp[m]
theorem Y7(h:P.contains v=true):∃k:Nat,jV P v=(k:Int)/\P[k]? = some v:=by
 have y:=ug P v;rw[h] at y;have m:0<=jV P v:=by simpa using y
 unfold jV at m |-;cases G:vt v P with
 | none=>rw[G] at m;simp at m
 | some k=>exact⟨k,rfl,ZY G⟩
end Go.Proofs.YtkefajjcpcoajaaGreatDoor.Lx
namespace Go.Proofs.YtkefajjcpcoajaaGreatDoor
open Go.RowKit Lx
variable {j:Nat}
def cF(B:Nat):World->Nat->Prop:=qS B [9,144,76,123,122]
def iF(B:Nat)(K:Option Nat):World->Nat->Prop:=λw k=>qS B [3] w k/\K≠some k
theorem uG(B:Nat)(K:Option Nat):jR (iF B K):=λw w' k hk he ⟨h,h2⟩=>⟨qE _ _ w w' k hk he h,h2⟩
theorem NC.own{S:World->Nat->Prop}{w:World}{xs:List (List (List UInt8)×List (List UInt8))}{us:List Value}(h:NC S w xs us)(i:Nat)(x:List (List UInt8)×List (List UInt8))(hx:xs[i]? = some x):∃ao n c bo m d,us[i*2]? = some (.slice ao n c)/\us[i*2+1]? = some (.slice bo m d)/\StrL S w ao n c x.1/\StrL S w bo m d x.2:=by
 induction xs generalizing us i with
 | nil=>simp at hx
 | cons y ys ih =>
  obtain⟨ao,n,c,bo,m,d,r,Z,h2,h3,h4⟩:=h;subst Z;cases i with
  | zero =>
   (have:y=x:=by simpa using hx);subst this;exact⟨ao,n,c,bo,m,d,rfl,rfl,h2,h3⟩
  | succ i =>
   obtain⟨H,n',c',G,m',d',a1,V,a3,J⟩:=ih h4 i (by simpa using hx);exact⟨H,n',c',G,m',d',by rw[show(i+1)*2=i*2+2 by omega];exact a1,by rw[show(i+1)*2+1=i*2+1+2 by omega];exact V,a3,J⟩
structure RQ (B:Nat) (w:World) (r:RSt) (z:RSl) (ko:Option Addr) (kn kc:Nat) (C:List (List UInt8)):Prop where
 precs:StrL (cF B) w z.s.po z.s.pn z.s.pc r.e.precs
 conts:CstS (cF B) w z.s.co z.s.cn z.s.cc r.e.conts
 num:IntL .u32 (cF B) w z.s.uo z.s.un z.s.uc r.e.rnum
 den:IntL .u32 (cF B) w z.s.dO z.s.dn z.s.dc r.e.rden
 lines:Row (cF B) 2 w z.lo z.ln z.lc (wI r.lines)
 names:∃us,Row (cF B) 2 w z.no z.nn z.nc us/\NC (cF B) w r.names us
 ck:StrL (cF B) w ko kn kc C
section
variable {B : Nat} {w w' : World} {r : RSt} {z : RSl} {ko : Option Addr} {kn kc : Nat} {C : List (List UInt8)}
theorem RQ.keep(h:RQ B w r z ko kn kc C)(hk:Keeps (cF B) w w'):RQ B w' r z ko kn kc C:=by
 obtain⟨us,y,m⟩:=h.names;have st:jR (cF B):=qE _ _;exact⟨Row.keep h.precs st hk,h.conts.keep st hk,Row.keep h.num st hk,Row.keep h.den st hk,Row.keep h.lines st hk,⟨us,Row.keep y st hk,m.keep st hk⟩,Row.keep h.ck st hk⟩
theorem LR.rq{v:Value}{L:List Txt}{xs:List (List UInt8)}(h:LR B (.slice ko kn kc) w r z L)(hv:w.ownsRow B 9 1 (.slice ko kn kc) kn (xs.map λv=>.string (stg v))):RQ B w r z ko kn kc xs:=by
 obtain⟨us,G,V⟩:=h.rr.conts;obtain⟨ns,H,J⟩:=h.rr.names;have m:∀ {q K:Option Nat} k,fS B q K w k->cF B w k:=λk y=>je (Nat.le_refl _) (λ_ h=>by rw[List.mem_singleton.1 h];decide) k y.1
 have mo:∀ {E:TypeId},E∈[9,144,76,123,122]->∀k,qS B [E] w k->cF B w k:=λZ k y=>je (Nat.le_refl _) (λ_ h=>by rw[List.mem_singleton.1 h];exact Z) k y
 exact⟨Row.mono h.rr.precs m,⟨us,Row.mono (Row.own (s:=9) G (by decide)) (mo (by decide)),V.mono m⟩,Row.mono h.rr.num (mo (by decide)),Row.mono h.rr.den (mo (by decide)),Row.mono (Row.own (s:=2) h.rr.lines (by decide)) (mo (by decide)),⟨ns,Row.mono (Row.own (s:=2) H (by decide)) (mo (by decide)),J.mono m⟩,Row.mono (Row.own (s:=1) hv (by decide)) (mo (by decide))⟩
end
structure LI (B:Nat) (w:World) (z:RSl) (D:List Sty) (nm:List UInt8) (rest:List Sty) (US1:List Value) (fo:Option Addr) (fn fc:Nat) (xs:List Int) (go:Option Addr) (gn gc:Nat) (ys:List Int) (two:Bool):Prop where
 row:w.ownsRow B 60 3 (.slice z.s.so z.s.sn z.s.sc) z.s.sn (US1++([.string (stg nm),(if two then .slice fo fn fc else .slice go gn gc),(if two then .slice go gn gc else .slice none 0 0)]++yZ rest))
 done:TC (iF B (Value.slice go gn gc).ownBlock) w D US1
 first:IntL .i64 (iF B (Value.slice go gn gc).ownBlock) w fo fn fc xs
 grow:w.ownsRow B 3 1 (.slice go gn gc) gn (ys.map (Value.int .i64))
section
variable {B : Nat} {w w' : World} {z : RSl} {D rest : List Sty} {nm : List UInt8} {US1 : List Value} {fo go : Option Addr} {fn fc gn gc : Nat} {xs ys : List Int} {two : Bool}
theorem LI.keep(h:LI B w z D nm rest US1 fo fn fc xs go gn gc ys two)(k1:w'.ownsRow B 60 3 (.slice z.s.so z.s.sn z.s.sc) z.s.sn (US1++([.string (stg nm),(if two then .slice fo fn fc else .slice go gn gc),(if two then .slice go gn gc else .slice none 0 0)]++yZ rest)))(k2:Keeps (qS B [3]) w w')(k3:w'.ownsRow B 3 1 (.slice go gn gc) gn (ys.map (Value.int .i64))):LI B w' z D nm rest US1 fo fn fc xs go gn gc ys two :=
 ⟨k1,h.done.keep (uG _ _) (λk hk ⟨hs,_⟩=>k2 k hk hs),Row.keep h.first (uG _ _) (λk hk ⟨hs,_⟩=>k2 k hk hs),k3⟩
theorem LI.below(h:LI B w z D nm rest US1 fo fn fc xs go gn gc ys two)(hb:Below w.heap.size w w'):LI B w' z D nm rest US1 fo fn fc xs go gn gc ys two:=h.keep (qQ h.row hb) (qD _ hb) (qQ h.grow hb)
theorem LI.box{q:Nat}{T:TypeId}{cs:List Value}(h:LI B w z D nm rest US1 fo fn fc xs go gn gc ys two)(hA:Arr w q T cs)(h1:T≠3)(h2:T≠60)(hg:w.grownBy w' (some q)):LI B w' z D nm rest US1 fo fn fc xs go gn gc ys two :=
 h.keep (World.ownsRow.kept h.row hg (Or.inr (zI h.row hA h2))) (zD hA (by simpa using h1) hg) (World.ownsRow.kept h.grow hg (Or.inr (zI h.grow hA h1)))
theorem LI.add{y:Int}{go':Option Addr}{gc':Nat}{w1:World}(h:LI B w z D nm rest US1 fo fn fc xs go gn gc ys two)(ho:w1.ownsRow B 3 1 (.slice go' (gn+1) gc') (gn+1) (ys.map (Value.int .i64)++[.int .i64 y]))(hg:w.grownBy w1 (Value.slice go gn gc).ownBlock)(hob:(Value.slice go' (gn+1) gc').ownBlock=(Value.slice go gn gc).ownBlock\/(Value.slice go' (gn+1) gc').ownBlock=some w.heap.size) :
    ∃gs,z.s.so=some ⟨gs,0,none⟩/\(w1.frozen? ⟨gs,US1.length+(if two then 2 else 1),none⟩=false)/\(∃old,w1.cell? ⟨gs,US1.length+(if two then 2 else 1),none⟩=some old)/\w1.grownBy (w1.setCell ⟨gs,US1.length+(if two then 2 else 1),none⟩ (.slice go' (gn+1) gc')) (some gs) /\
      LI B (w1.setCell ⟨gs,US1.length+(if two then 2 else 1),none⟩ (.slice go' (gn+1) gc')) z D nm rest US1 fo fn fc xs go' (gn+1) gc' (ys++[y]) two:=by
 have r1:=World.ownsRow.kept h.row hg (qv h.row h.grow (by decide));have hl:=r1.1;obtain⟨gs,G⟩:∃gs,z.s.so=some ⟨gs,0,none⟩:=by
  rcases r1.2 with ⟨hv,h0⟩|⟨gs,cap,cur,hv,_⟩
  . rw[h0] at hl;simp at hl
  . injection hv with e _ _;exact⟨gs,e⟩
 have J:=r1;rw[G] at J;obtain⟨r3,g3⟩:=World.ownsRow.stored J (US1.length+(if two then 2 else 1)) (.slice go' (gn+1) gc');let S2:World->Nat->Prop:=λw k=>iF B (Value.slice go gn gc).ownBlock w k/\(Value.slice go' (gn+1) gc').ownBlock≠some k
 have V:jR S2:=λw w' k m he ⟨a1,a2⟩=>⟨uG _ _ w w' k m he a1,a2⟩
 have up:∀k,iF B (Value.slice go gn gc).ownBlock w k->S2 w k:=λk a1=>⟨a1,λe=>by
  rcases hob with e1|e1
  . exact a1.2 (e1.symm.trans e)
  . rw[e1] at e;injection e with e;have:=Zx a1.1;omega⟩
 have k0:Keeps S2 w w1:=jL hg (λk m=>m.1.2);have k3:Keeps (qS B [3]) w1 (w1.setCell ⟨gs,US1.length+(if two then 2 else 1),none⟩ (.slice go' (gn+1) gc')):=by
  exact zS J (v:=.slice (some ⟨gs,0,none⟩) z.s.sn z.s.sc) g3 (by decide)
 have dn:∀k,S2 w1 k->iF B (Value.slice go' (gn+1) gc').ownBlock w1 k:=λk m=>⟨m.1.1,m.2⟩
 have Z:(US1++([Value.string (stg nm),(if two then Value.slice fo fn fc else .slice go gn gc),(if two then Value.slice go gn gc else .slice none 0 0)]++yZ rest)).set (US1.length+(if two then 2 else 1)) (.slice go' (gn+1) gc')=US1++([Value.string (stg nm),(if two then Value.slice fo fn fc else .slice go' (gn+1) gc'),(if two then Value.slice go' (gn+1) gc' else .slice none 0 0)]++yZ rest):=by
  rw[List.set_append_right _ _ (by omega)];cases two<;>simp
 rw[Z] at r3;have hc:∃old,(US1++([Value.string (stg nm),(if two then Value.slice fo fn fc else .slice go gn gc),(if two then Value.slice go gn gc else .slice none 0 0)]++yZ rest))[US1.length+(if two then 2 else 1)]? = some old:=by
  rw[List.getElem?_append_right (by omega)];cases two<;>simp
 obtain⟨old,a0⟩:=hc;have H:w1.cell? ⟨gs,US1.length+(if two then 2 else 1),none⟩=some old:=by
  have:=((Row.own (s:=3) J (by decide)).cell _ _ a0).1
  rwa [jm] at this
 refine⟨gs,G,World.ownsRow.frozenAt J _,⟨old,H⟩,g3,?_⟩;rw[<- G] at r3;exact⟨r3,((((h.done.mono up).keep V k0).mono dn).keep (uG _ _) (λk m ⟨hs,_⟩=>k3 k m hs)),Row.keep (Row.mono (Row.keep (Row.mono h.first up) V k0) dn) (uG _ _) (λk m ⟨hs,_⟩=>k3 k m hs),World.ownsRow.kept (by rw[List.map_append];exact ho) g3 (qv ho J (by decide))⟩
end
theorem P8:(Tryz.prog.info? 4).map (λi=>(i.zero,i.size,i.bytes))=some (some (.bool false),1,1):=by kernel_rfl
theorem P9(m:Nat)(hm:m<=100000)(W:World):(Instr.makeSlice 129 (.int .i64 (m:Int)) (.int .i64 (m:Int))).run Tryz.prog W=.ok (.slice (some ⟨W.heap.size,0,none⟩) m m) (W.alloc (.cells (madeCells #[.bool false] m) 4)):=by
 refine run_make_row' _ _ _ 1 Tryz.underlying129 P8 ?_ _ _ m ?_ ?_ W
 . rfl
 . omega
 . omega
theorem Uq(W:World)(P:List (List UInt8))(hm:P.length<=100000):∃V,W.alloc (.cells (madeCells #[.bool false] P.length) 4)=V/\Arr V W.heap.size 4 ((xx P []).map Value.bool)/\Below W.heap.size W V:=by
 have e:madeCells #[Value.bool false] P.length=((xx P []).map Value.bool).toArray:=by
  apply Array.ext';rw[toList_madeCells_one];unfold xx;rw[List.map_map];apply List.ext_getElem?;intro k;by_cases m:k<P.length
  . rw[List.getElem?_replicate,if_pos m,List.getElem?_map,List.getElem?_eq_getElem m];rfl
  . rw[List.getElem?_eq_none (by simp;omega),List.getElem?_eq_none (by simp;omega)]
 rw[e];obtain⟨V,H,G,y,_⟩:=qG W 4 ((xx P []).map Value.bool);exact⟨V,H,G,y⟩
theorem VI:∀ {xs:List (Int×Int)} {j:Nat} {p:Int×Int},xs[j]? = some p->(wI xs)[j*2]? = some (.int .i64 p.1)/\(wI xs)[j*2+1]? = some (.int .i64 p.2)
  | [],_,_,h=>by simp at h
  | x :: xs,0,p,h=>by
   (have:x=p:=by simpa using h);subst this;exact⟨rfl,rfl⟩
  | x :: xs,j+1,p,h=>by
   obtain⟨y,m⟩:=VI (xs:=xs) (j:=j) (p:=p) (by simpa using h);have e:wI (x :: xs)=.int .i64 x.1 :: .int .i64 x.2 :: wI xs:=rfl;rw[e,show(j+1)*2=j*2+2 by omega];exact⟨y,m⟩
theorem Y8(xs:List (Int×Int)):(wI xs).length=xs.length*2:=by unfold wI;rw[List.length_flatMap];exact Q8 2 _
theorem Wh{B:Nat}{w w':World}{p:Addr}{u:Value}(h:w.cell? p=some u/\cF B w p.block)(hk:Keeps (cF B) w w'):w'.cell? p=some u/\cF B w' p.block :=
 have hb:=World.block_lt_of_cell? w _ h.1;have he:=hk _ hb h.2
 ⟨(World.cell?_of_block he).trans h.1,qE _ _ w w' _ hb he h.2⟩
structure LS (B:Nat) (w:World) (r:RSt) (z:RSl) (P C:List (List UInt8)) (S:List qK) (ub:Nat) (j:Nat) (U:List (List UInt8)):Prop where
 row:∃US1,w.ownsRow B 60 3 (.slice z.s.so z.s.sn z.s.sc) z.s.sn (US1++yZ ((S.drop j).map λb=>⟨b.name,[],[]⟩))/\TC (qS B [3]) w ((S.take j).map (vM P C)) US1
 used:Arr w ub 4 ((xx P U).map Value.bool)
 u:LkU P U
 go:qz P C [] S=qz P C U (S.drop j)
section
variable {B : Nat} {w w' : World} {r : RSt} {z : RSl} {P C : List (List UInt8)} {S : List qK} {ub j : Nat} {U : List (List UInt8)}
theorem LS.box{q:Nat}{T:TypeId}{cs:List Value}(h:LS B w r z P C S ub j U)(hA:Arr w q T cs)(h1:T≠3)(h2:T≠60)(h3:4≠T)(hg:w.grownBy w' (some q)):LS B w' r z P C S ub j U:=by
 obtain⟨US1,m,y⟩:=h.row;exact⟨⟨US1,World.ownsRow.kept m hg (Or.inr (zI m hA h2)),y.keep (qE _ _) (zD hA (by simpa using h1) hg)⟩,kl h.used hg (yl h.used hA h3),h.u,h.go⟩
theorem LS.enter(h:LS B w r z P C S ub j U){b:qK}(hb:S[j]? = some b):∃US1,LI B w z ((S.take j).map (vM P C)) b.name ((S.drop (j+1)).map λb=>⟨b.name,[],[]⟩) US1 none 0 0 [] none 0 0 [] false/\US1.length=j*3:=by
 obtain⟨US1,m,y⟩:=h.row;have e:S.drop j=b :: S.drop (j+1):=by rw[List.drop_eq_getElem?_toList_append,hb];rfl
 rw[e] at m;have G:=y.len;rw[List.length_map,List.length_take,Nat.min_eq_left (Nat.le_of_lt (List.getElem?_eq_some_iff.1 hb).1)] at G;exact⟨US1,⟨m,y.mono (λk H=>⟨H,by intro e;cases e⟩),Row.nil _ _ _,World.ownsRow_nil _ _ _ _⟩,G⟩
end
section
variable {B : Nat} {w : World} {z : RSl} {D rest : List Sty} {nm : List UInt8} {US1 : List Value} {fo go : Option Addr} {fn fc gn gc : Nat} {xs ys : List Int}
theorem LI.gs{two:Bool}(h:LI B w z D nm rest US1 fo fn fc xs go gn gc ys two)(hj:US1.length=j*3):∃gs,z.s.so=some ⟨gs,0,none⟩/\w.cell? ⟨gs,j*3+(if two then 2 else 1),none⟩=some (.slice go gn gc)/\(∀W,(Instr.indexAt 28 (.slice z.s.so z.s.sn z.s.sc) (.int .i64 (j:Int))).run Tryz.prog W=.ok (.pointer (some ⟨gs,j*3,none⟩)) W)/\B<=gs/\j<z.s.sn:=by
 have H:=h.row.1;obtain⟨gs,y,J⟩:∃gs,z.s.so=some ⟨gs,0,none⟩/\B<=gs:=by
  rcases h.row.2 with ⟨hv,h0⟩|⟨gs,cap,cur,hv,hb,_⟩
  . rw[h0] at H;simp at H
  . injection hv with e _ _;exact⟨gs,e,hb⟩
 have V:=Row.own (s:=3) h.row (by decide);have Z:(US1++([Value.string (stg nm),(if two then Value.slice fo fn fc else .slice go gn gc),(if two then Value.slice go gn gc else .slice none 0 0)]++yZ rest))[j*3+(if two then 2 else 1)]? = some (.slice go gn gc):=by
  rw[List.getElem?_append_right (by omega),hj];cases two<;>simp
 have m:=(V.cell _ _ Z).1;rw[y,jm] at m;have G:j<z.s.sn:=by
  rw[List.length_append,List.length_append,hj] at H;simp only[List.length_cons,List.length_nil] at H;omega
 refine⟨gs,y,m,λW=>?_,J,G⟩;have:=yQ Tryz.underlying28 (show(Tryz.prog.info? 60).map (·.size)=some 3 by kernel_rfl) V j G W;rw[y,jm] at this;rw[y];exact this
theorem LI.add2{gs:Nat}{two:Bool}{y:Int}{go':Option Addr}{gc':Nat}{w1:World}(h:LI B w z D nm rest US1 fo fn fc xs go gn gc ys two)(hj:US1.length=j*3)(hgs:z.s.so=some ⟨gs,0,none⟩)(ho:w1.ownsRow B 3 1 (.slice go' (gn+1) gc') (gn+1) (ys.map (Value.int .i64)++[.int .i64 y]))(hg:w.grownBy w1 (Value.slice go gn gc).ownBlock)(hob:(Value.slice go' (gn+1) gc').ownBlock=(Value.slice go gn gc).ownBlock\/(Value.slice go' (gn+1) gc').ownBlock=some w.heap.size) :
    ∃V,w1.setCell ⟨gs,j*3+(if two then 2 else 1),none⟩ (.slice go' (gn+1) gc')=V/\(w1.frozen? ⟨gs,j*3+(if two then 2 else 1),none⟩=false)/\(∃old,w1.cell? ⟨gs,j*3+(if two then 2 else 1),none⟩=some old)/\w1.grownBy V (some gs)/\w1.ownsRow B 60 3 (.slice z.s.so z.s.sn z.s.sc) z.s.sn (US1++([.string (stg nm),(if two then .slice fo fn fc else .slice go gn gc),(if two then .slice go gn gc else .slice none 0 0)]++yZ rest))/\LI B V z D nm rest US1 fo fn fc xs go' (gn+1) gc' (ys++[y]) two:=by
 obtain⟨G,m,J,H,Z,e5⟩:=h.add ho hg hob;have:G=gs:=by rw[hgs] at m;injection m with m;injection m with m _ _;exact m.symm
 subst this;rw[hj] at J H Z e5;exact⟨_,rfl,J,H,Z,World.ownsRow.kept h.row hg (qv h.row h.grow (by decide)),e5⟩
theorem Wi{ub n:Nat}(k:Nat)(hk:k<n)(W:World):(Instr.indexAt 129 (.slice (some ⟨ub,0,none⟩) n n) (.int .i64 (k:Int))).run Tryz.prog W=.ok (.pointer (some ⟨ub,k,none⟩)) W:=by
 obtain⟨y,m,G⟩:=Option.map_eq_some_iff.1 (show(Tryz.prog.info? 4).map (·.size)=some 1 by kernel_rfl);simp[Instr.indexAt,run_underlying Tryz.underlying129,asIntOf,sizeOf,typeInfo,m,G,hk,Addr.add];exact λe=>e.symm
theorem LI.two(h:LI B w z D nm rest US1 none 0 0 [] go gn gc ys false):LI B w z D nm rest US1 go gn gc ys none 0 0 [] true:=by
 have m:∀ {K:Option Nat} k,iF B K w k->iF B (Value.slice none 0 0).ownBlock w k:=λk y=>⟨y.1,by intro e;cases e⟩
 exact⟨h.row,h.done.mono m,Row.mono (Row.own (s:=1) h.grow (by decide)) (λk y=>⟨y,by intro e;cases e⟩),World.ownsRow_nil _ _ _ _⟩
theorem LI.leave{S:List qK}{P C:List (List UInt8)}{b:qK}{r:RSt}{ub:Nat}{U:List (List UInt8)}(h:LI B w z ((S.take j).map (vM P C)) b.name ((S.drop (j+1)).map λb=>⟨b.name,[],[]⟩) US1 fo fn fc ((qN b qB).map (jV P)) go gn gc ((qN b qO).map (jV C)) true)(hb:S[j]? = some b)
    (hu:Arr w ub 4 ((xx P U).map Value.bool)) (hU:LkU P U) (hg:qz P C [] S=qz P C U (S.drop (j+1))):LS B w r z P C S ub (j+1) U:=by
 refine⟨⟨US1++[.string (stg b.name),.slice fo fn fc,.slice go gn gc],?_,?_⟩,hu,hU,hg⟩
 . have:=h.row;rw[<- List.append_assoc] at this;exact this
 . rw[qg hb,List.map_append];(have m:∀ {K:Option Nat} k,iF B K w k->qS B [3] w k:=λk y=>y.1);refine TC.append (h.done.mono m) ⟨fo,fn,fc,go,gn,gc,[],rfl,Row.mono h.first m,Row.own (s:=1) h.grow (by decide),rfl⟩
end
