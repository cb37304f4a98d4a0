/- -/
import Derived.Test.YtkefajjcpcoajaaGreatDoorPkA0
import Derived.Lib.CountLaws
import Derived.Deep.QuietTactic
import Derived.BigQuiet
import Derived.Test.YtkefajjcpcoajaaGreatDoorPkA1
set_option linter.all false
set_option maxRecDepth 100000
set_option maxHeartbeats 3200000
namespace Go.Proofs.YtkefajjcpcoajaaGreatDoor
open Go.RowKit Lx
variable {c d:UInt8}
namespace Lx
theorem GP(h:vx c=true):zM c=true:=by unfold zM;rw[h];rfl
theorem Vh(c:UInt8)(r:List UInt8):zv (c :: r)=(vx c&&decide (vy (c :: r)=(c :: r).length)):=by
 show(vx c&&r.all zM)=_;rw[DT,List.all_cons];cases h:vx c with
 | true=>rw[GP h];simp
 | false=>rfl
theorem Dw{s:ByteArray}(h:s.size=0):bys s=[]:=List.eq_nil_of_length_eq_zero (by rw[zR];exact h)
theorem WL{s:ByteArray}(hz:bys s=c :: (bys s).drop 1):zg (bys s)=((bys s).all kz&&(decide (s.size<=6)&&(decide (s.size=1) || !decide (c.toNat=48)))):=by
 have m:=zR s;rw[hz] at m;simp only[List.length_cons] at m
 conv=>lhs;rw[hz]
 show((c :: (bys s).drop 1).all kz&&decide (((bys s).drop 1).length<=5)&&(((bys s).drop 1).isEmpty || !decide (c.toNat=48)))=_;rw[<- hz,Bool.and_assoc];have H:decide (((bys s).drop 1).length<=5)=decide (s.size<=6):=by
  by_cases h:s.size<=6
  . rw[decide_eq_true h,decide_eq_true (by omega)]
  . rw[decide_eq_false h,decide_eq_false (by omega)]
 have G:((bys s).drop 1).isEmpty=decide (s.size=1):=by
  by_cases h:s.size=1
  . rw[decide_eq_true h,List.isEmpty_iff];exact List.eq_nil_of_length_eq_zero (by omega)
  . rw[decide_eq_false h,List.isEmpty_eq_false_iff];intro y;rw[y] at m;simp at m;omega
 rw[H,G]
end Lx
theorem Vi(s:ByteArray)(w:World)(hs:s.size<=1000000) :
    Calls Tryz.prog 135 #[.string s] w λe w'=>e=.returned (.bool (zv (bys s)))/\w=w':=by
 by_cases J:s.size=0
 . obtain rfl:=yt J;clear J;go_in;go_wp2_with fail;go_ret;exact⟨rfl,rfl⟩
 . (have m:0<s.size:=by omega);obtain⟨c,hc,x1,y⟩:=Yj s m;have G:=jA (Zb c w);have HR:=jA (Qo s w hs);obtain⟨b,V⟩:=jx1 (vx c);obtain⟨k,H⟩:=jx1 (vy (bys s));have Z:Hid (zv (bys s)=(b&&decide (k=s.size))):=by
    show _=_;rw[<- V.o,<- H.o,<- zR s,hc.o];exact Vh _ _
   rw[V.o] at G;rw[H.o] at HR;cases b with
   | true =>
    go_in;go_wp2_with fail;refine G.o.mono ?_;rintro e w' ⟨rfl,rfl⟩;go_wp2_with fail;refine HR.o.mono ?_;rintro e w' ⟨rfl,rfl⟩;go_wp2_with fail;go_ret;exact⟨zQ (by rw[Z.o,<- wO k _ s.size rfl];simp[y]),rfl⟩
   | false =>
    go_in;go_wp2_with fail;refine G.o.mono ?_;rintro e w' ⟨rfl,rfl⟩;go_wp2_with fail;go_ret;exact⟨zQ (by rw[Z.o];rfl),rfl⟩
theorem KU(s:ByteArray)(w:World)(hs:s.size<=1000000) :
    Calls Tryz.prog 124 #[.string s] w λe w'=>e=.returned (.bool (zv (bys s)))/\w=w':=by
 by_cases J:s.size=0
 . obtain rfl:=yt J;clear J;go_in;go_wp2_with fail;go_ret;exact⟨rfl,rfl⟩
 . (have m:0<s.size:=by omega);obtain⟨c,hc,x1,y⟩:=Yj s m;have G:=jA (Qm c w);have HR:=jA (DU s w hs);obtain⟨b,V⟩:=jx1 (vx c);obtain⟨k,H⟩:=jx1 (vy (bys s));have Z:Hid (zv (bys s)=(b&&decide (k=s.size))):=by
    show _=_;rw[<- V.o,<- H.o,<- zR s,hc.o];exact Vh _ _
   rw[V.o] at G;rw[H.o] at HR;cases b with
   | true =>
    go_in;go_wp2_with fail;refine G.o.mono ?_;rintro e w' ⟨rfl,rfl⟩;go_wp2_with fail;refine HR.o.mono ?_;rintro e w' ⟨rfl,rfl⟩;go_wp2_with fail;go_ret;exact⟨zQ (by rw[Z.o,<- wO k _ s.size rfl];simp[y]),rfl⟩
   | false =>
    go_in;go_wp2_with fail;refine G.o.mono ?_;rintro e w' ⟨rfl,rfl⟩;go_wp2_with fail;go_ret;exact⟨zQ (by rw[Z.o];rfl),rfl⟩
theorem uL(s:ByteArray)(w:World)(hs:s.size<=1000000) :
    Calls Tryz.prog 136 #[.string s] w λe w'=>e=.returned (.bool (zg (bys s)))/\w=w':=by
 by_cases h0:s.size=0
 . obtain rfl:=yt h0;clear h0;go_in;go_wp2_with fail;go_ret;exact⟨rfl,rfl⟩
 have H:0<s.size:=by omega
 obtain⟨c,hc,x1,a3⟩:=Yj s H;obtain⟨A,hA⟩:=jx1 ((bys s).all kz);obtain⟨n,hn⟩:∃n:Nat,Hid (c.toNat=n):=⟨_,rfl⟩;obtain⟨F,G⟩:=jx1 (zg (bys s));have hF:Hid (F=(A&&(decide (s.size<=6)&&(decide (s.size=1) || !decide (n=48))))):=by
  show _=_;rw[<- G.o,WL hc.o,hA.o,hn.o]
 rw[hn.o] at x1;rw[G.o];clear h0;have a5:s.toList.isEmpty=false:=by rw[List.isEmpty_eq_false_iff];exact a3
 rcases Nat.lt_or_ge 6 s.size with h6n|V
 . (have V:¬ s.size<=6:=by omega);(have a0:(s.size:Int) > 6:=by omega);go_in;go_wp2_with fail;go_ret;exact⟨zQ (by rw[hF.o,decide_eq_false V];simp),rfl⟩
 have a0:¬ (s.size:Int) > 6:=by omega
 go_in;go_wp2_with fail;go_loop [13] (λi=>∃j:Nat,j<=s.size/\i=.int .i64 j/\Hid (A=((bys s).drop j).all kz)) (λi=>s.size-(intOf i).toNat)
 case atStart=>exact⟨0,Nat.zero_le _,rfl,by show _=_;rw[List.drop_zero,hA.o]⟩
 case round =>
  obtain⟨j,hj,rfl,Z⟩:=hrel;by_cases a2:j<s.size
  . (have a4:(j:Int)<(s.size:Int):=by omega);obtain⟨d,hd,x2⟩:=ZH s j a2;have HB:=jA (KC d w);obtain⟨b,hb⟩:=jx1 (kz d);rw[hb.o] at HB;have J:Hid (A=(b&&((bys s).drop (j+1)).all kz)):=by
     show _=_;rw[Z.o,hd.o,List.all_cons,hb.o]
    clear Z;cases b with
    | true =>
     (have y:Hid (A=((bys s).drop (j+1)).all kz):=by show _=_;rw[J.o,Bool.true_and]);clear J;go_wp2_with fail;refine HB.o.mono ?_;rintro e w' ⟨rfl,rfl⟩;go_wp2_with fail;go_round;(case rel=>exact⟨j+1,by omega,by go_num,y⟩);case measure=>simp[intOf];omega
    | false =>
     (have y:Hid (A=false):=by show _=_;rw[J.o,Bool.false_and]);clear J;go_wp2_with fail;refine HB.o.mono ?_;rintro e w' ⟨rfl,rfl⟩;go_wp2_with fail;go_ret;exact⟨zQ (by rw[hF.o,y.o];rfl),rfl⟩
  . (obtain rfl:j=s.size:=by omega);(have y:Hid (A=true):=by show _=_;rw[Z.o,uJ];rfl);clear Z;by_cases m:n=48
    . (have a1:((n:Int) != 48)=false:=by simp;omega);(have hE:Hid (F=decide (s.size=1)):=by show _=_;rw[hF.o,y.o,decide_eq_true V,decide_eq_true m];simp);clear m;go_wp2_with fail;go_ret;exact⟨zQ (by rw[hE.o];exact wO s.size _ 1 rfl),rfl⟩
    . (have a1:((n:Int) != 48)=true:=by simp;omega);(have hE:Hid (F=true):=by show _=_;rw[hF.o,y.o,decide_eq_true V,decide_eq_false m];simp);clear m;go_wp2_with fail;go_ret;exact⟨zQ (by rw[hE.o]),rfl⟩
theorem Vj(s:ByteArray)(w:World)(hs:s.size<=1000000) :
    Calls Tryz.prog 141 #[.string s] w λe w'=>e=.returned (.bool (zg (bys s)))/\w=w':=by
 by_cases h0:s.size=0
 . obtain rfl:=yt h0;clear h0;go_in;go_wp2_with fail;(go_loop [3] (λi=>i=.int .i64 0) (λ_=>0));(case atStart=>rfl);case round =>
    obtain rfl:=hrel;go_wp2_with fail;go_ret;exact⟨rfl,rfl⟩
 have H:0<s.size:=by omega
 obtain⟨c,hc,x1,a4⟩:=Yj s H;obtain⟨A,hA⟩:=jx1 ((bys s).all kz);obtain⟨n,hn⟩:∃n:Nat,Hid (c.toNat=n):=⟨_,rfl⟩;obtain⟨F,y⟩:=jx1 (zg (bys s));have hF:Hid (F=(A&&(decide (s.size<=6)&&(decide (s.size=1) || !decide (n=48))))):=by
  show _=_;rw[<- y.o,WL hc.o,hA.o,hn.o]
 rw[hn.o] at x1;rw[y.o];clear h0;go_in;go_wp2_with fail;go_loop [3] (λi=>∃j:Nat,j<=s.size/\i=.int .i64 j/\Hid (A=((bys s).drop j).all kz)) (λi=>s.size-(intOf i).toNat)
 case atStart=>exact⟨0,Nat.zero_le _,rfl,by show _=_;rw[List.drop_zero,hA.o]⟩
 case round =>
  obtain⟨j,hj,rfl,Z⟩:=hrel;by_cases a2:j<s.size
  . (have a3:(j:Int)<(s.size:Int):=by omega);obtain⟨d,hd,x2⟩:=ZH s j a2;have HB:=jA (Zc d w);obtain⟨b,hb⟩:=jx1 (kz d);rw[hb.o] at HB;have V:Hid (A=(b&&((bys s).drop (j+1)).all kz)):=by
     show _=_;rw[Z.o,hd.o,List.all_cons,hb.o]
    clear Z;cases b with
    | true =>
     (have m:Hid (A=((bys s).drop (j+1)).all kz):=by show _=_;rw[V.o,Bool.true_and]);clear V;go_wp2_with fail;refine HB.o.mono ?_;rintro e w' ⟨rfl,rfl⟩;go_wp2_with fail;go_round;(case rel=>exact⟨j+1,by omega,by go_num,m⟩);case measure=>simp[intOf];omega
    | false =>
     (have m:Hid (A=false):=by show _=_;rw[V.o,Bool.false_and]);clear V;go_wp2_with fail;refine HB.o.mono ?_;rintro e w' ⟨rfl,rfl⟩;go_wp2_with fail;go_ret;exact⟨zQ (by rw[hF.o,m.o];rfl),rfl⟩
  . (obtain rfl:j=s.size:=by omega);(have m:Hid (A=true):=by show _=_;rw[Z.o,uJ];rfl);clear Z;(have g1:(s.size:Int)>=1:=by omega);by_cases h6:s.size<=6
    . (have a0:(s.size:Int)<=6:=by omega);by_cases J:s.size=1
      . (have a1:((s.size:Int) == 1)=true:=by simp;omega);(have G:Hid (F=true):=by show _=_;rw[hF.o,m.o,decide_eq_true h6,decide_eq_true J];simp);clear J;go_wp2_with fail;go_ret;exact⟨zQ (by rw[G.o]),rfl⟩
      . (have a1:((s.size:Int) == 1)=false:=by rw[beq_eq_false_iff_ne];omega);(have G:Hid (F = !decide (n=48)):=by show _=_;rw[hF.o,m.o,decide_eq_true h6,decide_eq_false J];simp);clear J;go_wp2_with fail;go_ret;exact⟨zQ (by rw[G.o,<- wO n 48 48 rfl];rfl),rfl⟩
    . (have a0:¬ (s.size:Int)<=6:=by omega);(have G:Hid (F=false):=by show _=_;rw[hF.o,m.o,decide_eq_false h6];simp);go_wp2_with fail;go_ret;exact⟨zQ (by rw[G.o]),rfl⟩
namespace Lx
theorem Dx(c:UInt8):(((c.toNat:Nat):Int)).toNat.toUInt8=c:=by simp
theorem Dy(c:UInt8):decide (Lib.indexByte [123,125,59,44,47] c>=0)=wi c:=by
 revert c;have h:∀k:Fin 256,decide (Lib.indexByte [123,125,59,44,47] (UInt8.ofNat k.val)>=0)=wi (UInt8.ofNat k.val):=by decide +kernel
 intro c;have:=h ⟨c.toNat,UInt8.toNat_lt c⟩
 rwa [UInt8.ofNat_toNat] at this
end Lx
theorem Qu(s:ByteArray)(c:UInt8)(w:World) :
    Calls Tryz.prog 190 #[.string s,.int .u8 ((c.toNat:Nat):Int)] w λe w'=>e=.returned (.int .i64 (Lib.indexByte (bys s) c))/\w=w':=by
 go_in;go_wp2
 rw[run_callFunc_extern Tryz.func229 (by kernel_rfl) (by kernel_rfl) (by kernel_rfl) (e:=Extern.BytealgIndexByte.indexByte) (by kernel_rfl),Lib.run_indexByteString,Dx];simp only[Result.andThen];rw[Oper.upon_value];go_wp2
 go_ret;exact⟨rfl,rfl⟩
theorem Vk(s:ByteArray)(c:UInt8)(w:World) :
    Calls Tryz.prog 137 #[.string s,.int .u8 ((c.toNat:Nat):Int)] w λe w'=>e=.returned (.int .i64 (Lib.indexByte (bys s) c))/\w=w':=by
 have m:=jA (Qu s c w);go_in;go_wp2_with fail;refine m.o.mono ?_;rintro e w' ⟨rfl,rfl⟩;go_wp2_with fail;go_ret;exact⟨rfl,rfl⟩
theorem NK(s:ByteArray)(w:World) :
    Calls Tryz.prog 77 #[.string s,.string ⟨#[10]⟩] w λe w'=>e=.returned (.int .i64 ((nlN (bys s):Nat):Int))/\w=w':=by
 have m:Hid (Lib.countByte s.data.toList ((⟨#[10]⟩:ByteArray)[0])=nlN (bys s)):=by
  show List.count _ _=_;unfold nlN bys List.count;refine List.countP_congr λx _=>?_
  have e:((⟨#[10]⟩:ByteArray)[0]).toNat=10:=rfl;constructor
  . intro h;rw[beq_iff_eq] at h;rw[h,e];rfl
  . intro h;rw[beq_iff_eq];exact UInt8.toNat_inj.1 (by rw[e];exact of_decide_eq_true h)
 go_in;go_wp2
 rw[run_callFunc_extern Tryz.func132 (by kernel_rfl) (by kernel_rfl) (by kernel_rfl) (e:=Extern.BytealgCount.count) (by kernel_rfl),Lib.run_countString,Dx,m.o];simp only[Result.andThen];rw[Oper.upon_value];go_wp2
 go_ret;exact⟨rfl,rfl⟩
namespace Lx
theorem NL{l p q:List UInt8}(h:l=p++c :: q)(hc:c.toNat=47)(hp:∀x∈p,x.toNat≠47):xF l=(zg p&&zg q):=by
 have G:∀p:List UInt8,(∀x∈p,x.toNat≠47)->(p++c :: q).takeWhile (λc => !decide (c.toNat=47))=p/\(p++c :: q).dropWhile (λc => !decide (c.toNat=47))=c :: q:=by
  intro p;induction p with
  | nil=>intro _;simp[hc]
  | cons d p ih =>
   intro hp;have m:=hp d (List.mem_cons_self ..);(have y:=ih λx H=>hp x (List.mem_cons_of_mem _ H));rw[List.cons_append,List.takeWhile_cons,List.dropWhile_cons,if_pos (by simp[m]),if_pos (by simp[m]),y.1,y.2];exact⟨rfl,rfl⟩
 unfold xF;rw[if_pos (by rw[h,List.any_append,List.any_cons,decide_eq_true hc];simp),h,(G p hp).1,(G p hp).2];rfl
theorem GQ{l:List UInt8}(h:∀x∈l,x.toNat≠47):xF l=(zv l||zg l):=by
 unfold xF;rw[if_neg];intro G;obtain⟨x,y,m⟩:=List.any_eq_true.1 G;exact h x y (of_decide_eq_true m)
def uM(s:ByteArray):ByteArray×ByteArray×Bool :=
 if 0<=Lib.indexByte (bys s) 47 then (s.extract 0 (Lib.indexByte (bys s) 47).toNat,s.extract ((Lib.indexByte (bys s) 47).toNat+1) s.size,true) else (s,⟨#[]⟩,false)
theorem gd(s:ByteArray)(i:Nat):bys (s.extract i s.size)=(bys s).drop i:=by
 rw[Ql,List.take_of_length_le];rw[List.length_drop,zR];exact Nat.le_refl _
theorem wV(s:ByteArray)(i:Nat):bys (s.extract 0 i)=(bys s).take i:=by
 rw[Ql];rfl
theorem Pt{x:UInt8}(h:x≠47):x.toNat≠47:=λe=>h (UInt8.toNat_inj.1 (by rw[e];rfl))
theorem Dz(s:ByteArray):xF (bys s)=(if (uM s).2.2 then zg (bys (uM s).1)&&zg (bys (uM s).2.1) else zv (bys s)||zg (bys s)):=by
 unfold uM;by_cases h:0<=Lib.indexByte (bys s) 47
 . obtain⟨k,H⟩:∃k:Nat,Lib.indexByte (bys s) 47=k:=⟨(Lib.indexByte (bys s) 47).toNat,by omega⟩;rw[if_pos h];simp only[if_true,H,Int.toNat_natCast,gd,wV];obtain⟨J,Z⟩:=Lib.indexByte_some H;obtain⟨m,y⟩:=List.getElem?_eq_some_iff.1 J;refine NL (c:=47) ?_ rfl ?_
   . have:=List.take_append_drop k (bys s);rw[List.drop_eq_getElem_cons m,y] at this;exact this.symm
   . intro x G;obtain⟨i,hi,rfl⟩:=List.mem_iff_getElem.1 G;rw[List.length_take] at hi;(refine Pt λe=>Z i (by omega) ?_);rw[List.getElem_take] at e;rw[<- e];exact List.getElem?_eq_getElem _
 . (have V:Lib.indexByte (bys s) 47=-1:=by have:=Lib.indexByte_ge (bys s) 47;omega);rw[if_neg h];simp only[Bool.false_eq_true,if_false];(refine GQ λx G=>Pt λe=>?_);obtain⟨i,hi,he⟩:=List.mem_iff_getElem.1 G;exact Lib.indexByte_none V i (by rw[List.getElem?_eq_getElem hi,he,e])
theorem KW(s:ByteArray):(uM s).1.size<=s.size/\(uM s).2.1.size<=s.size:=by
 unfold uM;split
 . simp only[ByteArray.size_extract];omega
 . exact⟨Nat.le_refl _,Nat.zero_le _⟩
end Lx
theorem gf(s:ByteArray)(w:World) :
    Calls Tryz.prog 186 #[.string s,.string ⟨#[47]⟩] w λe w'=>e=.returned (.int .i64 (Lib.indexByte (bys s) 47))/\w=w':=by
 have y:=jA (Qu s ((⟨#[47]⟩:ByteArray)[0]) w);have m:∀x:Int,Lib.indexByte (bys s) 47=x->Lib.indexByte (bys s) ((⟨#[47]⟩:ByteArray)[0])=x:=λx h=>h
 have G:=jA m;clear m;by_cases h:([47] == s.toList)=true
 . have e:Hid (Lib.indexByte (bys s) 47=0):=by
    show _=_;rw[<- xH,<- beq_iff_eq.1 h];rfl
   go_in;go_wp2_with fail;go_ret;exact⟨yb e.o.symm,rfl⟩
 . (have H:([47] == s.toList)=false:=by simpa using h);clear h;go_in;go_wp2_with fail;refine y.o.mono ?_;rintro e w' ⟨rfl,rfl⟩;go_wp2_with fail;go_ret;exact⟨yb rfl,rfl⟩
theorem UE(s:ByteArray)(w:World)(hs:s.size<=1000000) :
    Calls Tryz.prog 178 #[.string s,.string ⟨#[47]⟩] w λe w'=>e=.returned (.tuple #[.string (uM s).1,.string (uM s).2.1,.bool (uM s).2.2])/\∃q,w.drewN q=w':=by
 obtain⟨i,hi⟩:=jx2 (Lib.indexByte (bys s) 47);have m:=gf s w;rw[<- hi.o] at m;have m:=jA m;obtain⟨r,H⟩:=jx2 (uM s);have y:r=if 0<=i then (s.extract 0 i.toNat,s.extract (i.toNat+1) s.size,true) else (s,⟨#[]⟩,false):=by rw[H.o,hi.o];rfl
 have J:=jA y;rw[<- H.o];clear y;by_cases G:0<=i
 . obtain⟨k,rfl⟩:∃k:Nat,i=k:=⟨i.toNat,by omega⟩;have hb:k<s.size:=by
    have V:=(Lib.indexByte_some hi.o.symm).1;have Z:=(List.getElem?_eq_some_iff.mp V).1
    rwa [zR] at Z
   have e:=J.o;rw[if_pos G] at e;rw[show((k:Int)).toNat=k from rfl] at e;subst e;(have hd:decide ((0:Int)<=(k:Int))=true:=by simp);(have c1:(0:Int)<=(k:Int):=by omega);(have c2:(k:Int)<=(s.size:Int):=by omega);(have c3:(0:Int)<=(k:Int)+1:=by omega);(have c4:(k:Int)+1<=(s.size:Int):=by omega);have c5:IntKind.i64.wrap ((k:Int)+1)=(k:Int)+1:=IntWalk.i64_in _ (by omega);(have c6:((k:Int)+1).toNat=k+1:=by omega);go_in;go_wp2_with fail;refine m.o.mono ?_;rintro e w' ⟨rfl,rfl⟩;go_wp2_with fail;(go_quiet (fail));go_wp2_with fail;(go_ret3);exact⟨rfl,_,rfl⟩
 . (have hd:decide (0<=i)=false:=by simpa using G);have e:=J.o;rw[if_neg G] at e;subst e;go_in;go_wp2_with fail;refine m.o.mono ?_;rintro e w' ⟨rfl,rfl⟩;go_wp2_with fail;(go_ret3);exact⟨rfl,0,rfl⟩
theorem M7(s:ByteArray)(w:World)(hs:s.size<=1000000) :
    Calls Tryz.prog 121 #[.string s,.string ⟨#[47]⟩] w λe w'=>e=.returned (.tuple #[.string (uM s).1,.string (uM s).2.1,.bool (uM s).2.2])/\∃q,w.drewN q=w':=by
 have H:=jA (UE s w hs);go_in;go_wp2_with fail;refine H.o.mono ?_;rintro e w' ⟨rfl,n,rfl⟩;go_wp2_with fail;go_ret3
 exact⟨rfl,n,rfl⟩
theorem UF(s:ByteArray)(w:World)(hs:s.size<=1000000) :
    Calls Tryz.prog 241 #[.string s] w λe w'=>e=.returned (.bool (xF (bys s)))/\∃q,w.drewN q=w':=by
 have m:=M7 s w hs;obtain⟨u,hu⟩:=jx1 ((uM s).1);obtain⟨v,hv⟩:=jx1 ((uM s).2.1);obtain⟨f,hf⟩:=jx1 ((uM s).2.2);obtain⟨R,G⟩:=jx1 (xF (bys s));obtain⟨nu,H⟩:∃b,Hid (zg (bys u)=b):=⟨_,rfl⟩;obtain⟨nv,V⟩:∃b,Hid (zg (bys v)=b):=⟨_,rfl⟩;obtain⟨ws,J⟩:∃b,Hid (zv (bys s)=b):=⟨_,rfl⟩;obtain⟨ns,y⟩:∃b,Hid (zg (bys s)=b):=⟨_,rfl⟩;have Z:Hid (R=if f then nu&&nv else ws||ns):=by
  show _=_;rw[<- G.o,Dz,hu.o,hv.o,hf.o,H.o,V.o,J.o,y.o]
 have su:u.size<=1000000:=by rw[<- hu.o];exact Nat.le_trans (KW s).1 hs
 have sv:v.size<=1000000:=by rw[<- hv.o];exact Nat.le_trans (KW s).2 hs
 have H1:Hid (∀q,jC 136 #[.string u] (w.drewN q) λe w'=>e=.returned (.bool nu)/\w.drewN q=w'):=λq=>by rw[<- H.o];exact uL u (w.drewN q) su
 have H2:Hid (∀q,jC 136 #[.string v] (w.drewN q) λe w'=>e=.returned (.bool nv)/\w.drewN q=w'):=λq=>by rw[<- V.o];exact uL v (w.drewN q) sv
 have H3:Hid (∀q,jC 135 #[.string s] (w.drewN q) λe w'=>e=.returned (.bool ws)/\w.drewN q=w'):=λq=>by rw[<- J.o];exact Vi s (w.drewN q) hs
 have H4:Hid (∀q,jC 136 #[.string s] (w.drewN q) λe w'=>e=.returned (.bool ns)/\w.drewN q=w'):=λq=>by rw[<- y.o];exact uL s (w.drewN q) hs
 rw[hu.o,hv.o,hf.o] at m;have m:=jA m;rw[G.o];clear su sv;cases f with
 | true =>
  cases nu with
  | true =>
   go_in;go_wp2_with fail;refine m.o.mono ?_;rintro e w' ⟨rfl,q,rfl⟩;go_wp2_with fail;refine(H1.o q).mono ?_;rintro e w' ⟨rfl,rfl⟩;go_wp2_with fail;refine(H2.o q).mono ?_;rintro e w' ⟨rfl,rfl⟩;go_wp2_with fail;go_ret;exact⟨zQ (by rw[Z.o];rfl),q,rfl⟩
  | false =>
   go_in;go_wp2_with fail;refine m.o.mono ?_;rintro e w' ⟨rfl,q,rfl⟩;go_wp2_with fail;refine(H1.o q).mono ?_;rintro e w' ⟨rfl,rfl⟩;go_wp2_with fail;go_ret;exact⟨zQ (by rw[Z.o];rfl),q,rfl⟩
 | false =>
  cases ws with
  | true =>
   go_in;go_wp2_with fail;refine m.o.mono ?_;rintro e w' ⟨rfl,q,rfl⟩;go_wp2_with fail;refine(H3.o q).mono ?_;rintro e w' ⟨rfl,rfl⟩;go_wp2_with fail;go_ret;exact⟨zQ (by rw[Z.o];rfl),q,rfl⟩
  | false =>
   go_in;go_wp2_with fail;refine m.o.mono ?_;rintro e w' ⟨rfl,q,rfl⟩;go_wp2_with fail;refine(H3.o q).mono ?_;rintro e w' ⟨rfl,rfl⟩;go_wp2_with fail;refine(H4.o q).mono ?_;rintro e w' ⟨rfl,rfl⟩;go_wp2_with fail;go_ret;exact⟨zQ (by rw[Z.o];rfl),q,rfl⟩
namespace Lx
def uP(t:List UInt8)(j:Nat)(r:Option (List UInt8×Nat)):Option (List UInt8×Nat):=r.map λx=>(t++x.1,x.2+j)
theorem GR(r:Option (List UInt8×Nat)):uP [] 0 r=r:=by cases r<;>rfl
theorem FA(t:List UInt8)(j:Nat)(h:c.toNat=34)(r:List UInt8):uP t j (xB (c :: r))=some (t,1+j):=by
 rw[zt,if_pos h];simp[uP]
theorem FB(t:List UInt8)(j:Nat)(h:¬ c.toNat=34)(hp:z8 c=false)(r:List UInt8):uP t j (xB (c :: r))=none:=by
 rw[zt,if_neg h,hp];rfl
theorem UG(t:List UInt8)(j:Nat)(h:¬ c.toNat=34)(h2:¬ c.toNat=92)(hp:z8 c=true)(r:List UInt8):uP t j (xB (c :: r))=uP (t++[c]) (j+1) (xB r):=by
 rw[zt,if_neg h,if_pos hp,if_neg h2];unfold uP;rw[Option.map_map];congr 1;funext x;simp only[Function.comp,List.append_assoc,List.cons_append,List.nil_append,Prod.mk.injEq,true_and];omega
theorem FD(t:List UInt8)(j:Nat)(h2:c.toNat=92)(hd:xg d=true)(r:List UInt8):uP t j (xB (c :: d :: r))=uP (t++[d]) (j+2) (xB r):=by
 rw[zt,if_neg (by omega),if_pos (by simp[z8,h2]),if_pos h2];simp only[if_pos hd];unfold uP;rw[Option.map_map];congr 1;funext x;simp only[Function.comp,List.append_assoc,List.cons_append,List.nil_append,Prod.mk.injEq,true_and];omega
theorem XW(t:List UInt8)(j:Nat)(h2:c.toNat=92)(hd:xg d=false)(r:List UInt8):uP t j (xB (c :: d :: r))=none:=by
 rw[zt,if_neg (by omega),if_pos (by simp[z8,h2]),if_pos h2];simp[uP,hd]
theorem XX(t:List UInt8)(j:Nat)(h2:c.toNat=92):uP t j (xB [c])=none:=by
 rw[zt,if_neg (by omega),if_pos (by simp[z8,h2]),if_pos h2];rfl
theorem FF(t:List UInt8)(j:Nat):uP t j (xB [])=none:=by rw[xB];rfl
theorem Zq(l:List UInt8):VT (l.map λb=>((b.toNat:Nat):Int))=stg l:=by
 unfold VT stg;rw[List.map_map];congr 2;have:((λx=>UInt8.ofNat x.toNat) ∘ λb:UInt8=>((b.toNat:Nat):Int))=id:=by
  funext b;simp[Function.comp]
 rw[this,List.map_id]
theorem XY(h:xg c=true):z8 c=true:=by
 simp only[xg,Bool.or_eq_true,decide_eq_true_eq] at h;rcases h with h|h<;>simp[z8,h]
end Lx
namespace Lx
def ui(l:List UInt8):List Int:=l.map λb=>((b.toNat:Nat):Int)
theorem uQ(l:List UInt8){n:Nat}(h:d.toNat=n):ui l++[(n:Int)]=ui (l++[d]):=by simp[ui,h]
def QT:Option (List UInt8×Nat)->ByteArray×Nat
  | none=>(⟨#[]⟩,0)
  | some x=>(stg x.1,x.2+1)
end Lx
theorem gg{r:Option (List UInt8×Nat)}{t:ByteArray}{k:Nat}{z:Int}(h:QT r=(t,k))(hz:z=k):Ending.returned (.tuple #[.string t,.int .i64 z])=.returned (.tuple #[.string (QT r).1,.int .i64 (((QT r).2:Nat):Int)]):=by rw[h,hz]
theorem GT(s:ByteArray)(w:World)(hs:s.size<=1000000)(hpos:0<s.size) :
    Calls Tryz.prog 138 #[.string s] w λe w'=>e=.returned (.tuple #[.string (QT (xB ((bys s).drop 1))).1,.int .i64 (((QT (xB ((bys s).drop 1))).2:Nat):Int)])/\Below w.heap.size w w':=by
 obtain⟨R,hR⟩:=jx1 (xB ((bys s).drop 1));rw[hR.o];go_in;go_wp2_with fail;go_loopw [4,5] (λv i wr=>∃ (j:Nat) (T:List UInt8) (a:Option Addr) (c:Nat),1<=j/\j<=s.size/\T.length<=j/\i=.int .i64 j/\v=.slice a T.length c/\Own 5 .u8 w.heap.size wr a T.length c (ui T)/\Hid (R=uP T (j-1) (xB ((bys s).drop j)))/\Below w.heap.size w wr) (λ_ i _=>s.size-(intOf i).toNat)
 case atStart=>exact⟨1,[],none,0,Nat.le_refl _,hpos,Nat.zero_le _,rfl,rfl,gT _ _ _ _,by show _=_;rw[hR.o];exact(GR R).symm,Below.refl _ _⟩
 case round =>
  obtain⟨j,T,a,c,b1,hj,hT,rfl,rfl,O,hI,B⟩:=hrel;have zB:=B.size;by_cases a7:j<s.size
  . (have b0:(j:Int)<(s.size:Int):=by omega);obtain⟨d,hd,x1⟩:=ZH s j a7;have HP:=yi d wr;obtain⟨n,J⟩:∃n:Nat,Hid (d.toNat=n):=⟨_,rfl⟩;obtain⟨p,hp⟩:=jx1 (z8 d);rw[J.o] at x1;rw[J.o,hp.o] at HP;have HP:=jA HP;(have m:n<256:=by rw[<- J.o];exact UInt8.toNat_lt d);(have g0:(0:Int)<=(n:Int):=by omega);(have g1:(n:Int)<=255:=by omega);(have HI:Hid (R=uP T (j-1) (xB (d :: (bys s).drop (j+1)))):=by show _=_;rw[hI.o,hd.o]);clear hI m;by_cases V:n=34
    . (have a9:((n:Int) == 34)=true:=by simp;omega);have G:Hid (QT R=(stg T,j+1)):=by
       show _=_;rw[HI.o,FA _ _ (by rw[J.o];exact V)];unfold QT;simp only[Prod.mk.injEq,true_and];omega
      have a5:=Za O;rw[show VT (ui T)=stg T from Zq T] at a5;clear V;go_wp2_with fail;go_ret2;exact⟨gg G.o (by omega),B⟩
    . (have a9:((n:Int) == 34)=false:=by rw[beq_eq_false_iff_ne];omega);have a0:=jA V;clear V;by_cases Z:n=92
      . (have a8:((n:Int) == 92)=true:=by simp;omega);have y:=jA Z;clear Z;by_cases a3:j+1<s.size
        . (have a1:(((j:Int)+1) == (s.size:Int))=false:=by rw[beq_eq_false_iff_ne];omega);obtain⟨d2,a6,x2⟩:=ZH s (j+1) a3;rw[show((j+1:Nat):Int)=(j:Int)+1 by omega] at x2;have HE:=Qn d2 wr;have HQ:=yi d2 wr;obtain⟨n2,H⟩:∃n:Nat,Hid (d2.toNat=n):=⟨_,rfl⟩;obtain⟨b,hb⟩:=jx1 (xg d2);rw[H.o] at x2;rw[H.o,hb.o] at HE;rw[H.o] at HQ;have HE:=jA HE;(have a4:Hid (R=uP T (j-1) (xB (d :: d2 :: (bys s).drop (j+2)))):=by show _=_;rw[HI.o,a6.o]);(have m:n2<256:=by rw[<- H.o];exact UInt8.toNat_lt d2);(have f0:(0:Int)<=(n2:Int):=by omega);(have f1:(n2:Int)<=255:=by omega);clear m;cases b with
          | true =>
           rw[XY hb.o] at HQ;have HQ:=jA HQ;have G:Hid (R=uP (T++[d2]) (j+1) (xB ((bys s).drop (j+2)))):=by
            show _=_;rw[a4.o,FD _ _ (by rw[J.o];exact y.o) hb.o,show j-1+2=j+1 by omega]
           go_wp2_with fail;refine HE.o.mono ?_;rintro e w' ⟨rfl,rfl⟩;go_wp2_with fail;refine HQ.o.mono ?_;rintro e w' ⟨rfl,rfl⟩;go_wp2_with (at_builtin;refine xG (B:=w.heap.size) O zB (by omega) f0 f1 rfl rfl ?_);intro a2 c2 w2 O2 b2;rw[uQ T H.o] at O2;have B2:=B.trans b2;clear O B b2;go_wp2_with fail;go_roundw;(case rel=>exact⟨j+2,T++[d2],a2,c2,by omega,by omega,by rw[List.length_append];simp;omega,by go_num,by rw[List.length_append];rfl,by rw[List.length_append];exact O2,G,B2⟩);case measure=>simp[intOf];omega
          | false =>
           have G:Hid (QT R=(⟨#[]⟩,0)):=by
            show _=_;rw[a4.o,XW _ _ (by rw[J.o];exact y.o) hb.o];rfl
           clear HQ;go_wp2_with fail;refine HE.o.mono ?_;rintro e w' ⟨rfl,rfl⟩;go_wp2_with fail;go_ret2;exact⟨gg G.o rfl,B⟩
        . (have a1:(((j:Int)+1) == (s.size:Int))=true:=by simp;omega);have G:Hid (QT R=(⟨#[]⟩,0)):=by
           show _=_;rw[HI.o,List.drop_of_length_le (by rw[zR];omega),XX _ _ (by rw[J.o];exact y.o)];rfl
          go_wp2_with fail;go_ret2;exact⟨gg G.o rfl,B⟩
      . (have a8:((n:Int) == 92)=false:=by rw[beq_eq_false_iff_ne];omega);have y:=jA Z;clear Z;cases p with
        | true =>
         have G:Hid (R=uP (T++[d]) j (xB ((bys s).drop (j+1)))):=by
          show _=_;rw[HI.o,UG _ _ (by rw[J.o];exact a0.o) (by rw[J.o];exact y.o) hp.o,show j-1+1=j by omega]
         go_wp2_with fail;refine HP.o.mono ?_;rintro e w' ⟨rfl,rfl⟩;go_wp2_with (at_builtin;refine xG (B:=w.heap.size) O zB (by omega) g0 g1 rfl rfl ?_);intro a2 c2 w2 O2 b2;rw[uQ T J.o] at O2;have B2:=B.trans b2;clear O B b2;go_wp2_with fail;go_roundw;(case rel=>exact⟨j+1,T++[d],a2,c2,by omega,by omega,by rw[List.length_append];simp;omega,by go_num,by rw[List.length_append];rfl,by rw[List.length_append];exact O2,G,B2⟩);case measure=>simp[intOf];omega
        | false =>
         have G:Hid (QT R=(⟨#[]⟩,0)):=by
          show _=_;rw[HI.o,FB _ _ (by rw[J.o];exact a0.o) hp.o];rfl
         go_wp2_with fail;refine HP.o.mono ?_;rintro e w' ⟨rfl,rfl⟩;go_wp2_with fail;go_ret2;exact⟨gg G.o rfl,B⟩
  . (obtain rfl:j=s.size:=by omega);(have G:Hid (QT R=(⟨#[]⟩,0)):=by show _=_;rw[hI.o,uJ,FF];rfl);clear hI;go_wp2_with fail;go_ret2;exact⟨gg G.o rfl,B⟩
