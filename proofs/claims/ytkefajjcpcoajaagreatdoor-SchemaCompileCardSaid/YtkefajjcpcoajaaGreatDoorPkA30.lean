/- -/
import Derived.Test.YtkefajjcpcoajaaGreatDoorPkA0
import Derived.Lib.LazyBuf
import Derived.Test.YtkefajjcpcoajaaGreatDoorPkA29
set_option linter.all false
set_option maxRecDepth 100000
set_option maxHeartbeats 25600000
namespace Go.Proofs.YtkefajjcpcoajaaGreatDoor
open Go.RowKit Lx
variable {us:List Value}{ao':Option Addr}{c':Nat}
theorem ZP(nm:List UInt8)(fo:Option Addr)(fn fc:Nat)(l:Int)(e:Elc)(s:ESl)(seen:List (List UInt8))(T3:List Value)(hT3:T3.length=3)(f:Nat×Int)(g:Nat)(w:World)(hC:CstS qU w s.co s.cn s.cc e.conts)(hS:StyS qU w s.so s.sn s.sc e.stys)(hcn:s.cn<=1000000)(hsn:s.sn<=1000000)(hnm:nm.length<=1000000)(h:St w g (eC e s++T3) f) :
    Calls Tryz.prog 70 #[.pointer (some ⟨g,0,none⟩),.agg #[.string (stg qF),.string (stg nm),.slice fo fn fc,.int .i64 l]] w λx w'=>x=.returned (.tuple #[])/\St w' g (eC e s++T3) (z7 f (yz (e.conts.map Cst.name) (e.stys.map Sty.name) seen qF nm) l)/\w.grownBy w' (some g):=by
 have hQ:Hid (yz (e.conts.map Cst.name) (e.stys.map Sty.name) seen qF nm=if nm=[] then 6 else if zv nm=false then 8 else if 24<nm.length then 8 else if (e.conts.map Cst.name).contains nm=true then 3 else if 4<=e.conts.length then 7 else 0):=by
  show _=_;unfold yz;rw[if_neg (show ¬ zb qF=[] by decide)];by_cases h1:nm=[]
  . rw[if_pos h1,if_pos (by simp[h1])]
  . rw[if_neg h1,if_neg (by simp[h1])];cases hw:zv nm with
    | false=>simp +decide 
    | true =>
     by_cases h2:24<nm.length
     . simp +decide [h2]
     . by_cases h3:(e.conts.map Cst.name).contains nm=true
       . simp +decide [h2,h3]
       . by_cases h4:4<=e.conts.length<;>simp +decide [h2,h3,h4]
 obtain⟨R,hR⟩:∃X,Hid (yz (e.conts.map Cst.name) (e.stys.map Sty.name) seen qF nm=X):=⟨_,rfl⟩;rw[hR.o] at hQ |-;obtain⟨U,e1,AU,BU,hz⟩:=qG w 55 [.string (stg qF),.string (stg nm),.slice fo fn fc,.int .i64 l];have b1:((stg qF).toList == [99,111,110,116,101,115,116])=true:=j9 qF;have b2:((stg qF).toList == [115,116,121,108,101])=false:=jh (v:=qI) (by decide);have HK:Hid (∀W,jC 71 #[.string (stg qF)] W λe w'=>∃ao n c,e=.returned (.slice ao n c)/\StrL (qS W.heap.size [9]) w' ao n c (zb qF)/\Below W.heap.size W w'/\(zb qF=[]↔ao=none)):=λW=>gp qF W
 have HW:Hid (∀W,jC 124 #[.string (stg nm)] W λe w'=>e=.returned (.bool (zv nm))/\W=w'):=λW=>by
  have:=KU (stg nm) W (by rw[kt];exact hnm);rw[zL] at this;exact this
 have a2:((stg nm).toList=[])↔nm=[]:=by rw[xH,zL]
 have J:(stg nm).size=nm.length:=kt nm;obtain⟨KK,V⟩:∃K,Hid (stg qF=K):=⟨_,rfl⟩;have a5:Hid (∀x:List UInt8,((stg x).toList == (stg nm).toList)=(nm == x)):=λx=>by
  rw[kq];by_cases e:x=nm
  . rw[decide_eq_true e,e];simp
  . rw[decide_eq_false e];exact(beq_eq_false_iff_ne.2 λh=>e h.symm).symm
 obtain⟨m,a4⟩:∃K,Hid (stg nm=K):=⟨_,rfl⟩;rw[V.o,a4.o] at e1 AU;rw[V.o] at b1 b2 HK;rw[a4.o] at HW a2 J a5;rw[V.o,a4.o];have HY:Hid (∀W,Below U.heap.size U W->W.cell? ⟨w.heap.size,0,none⟩=some (.string KK)/\W.cell? ⟨w.heap.size,1,none⟩=some (.string m)/\W.cell? ⟨w.heap.size,3,none⟩=some (.int .i64 l)):=λW y=>⟨(AU.kept y).cell 0,(AU.kept y).cell 1,(AU.kept y).cell 3⟩
 have a6:Hid (∀W,Below U.heap.size U W->St W g (eC e s++T3) f):=λW y=>(h.keep BU).keep y
 have HD:Hid (∀W,Below U.heap.size U W->W.cell? ⟨g,5,none⟩=some (.slice s.co s.cn s.cc)/\W.cell? ⟨g,6,none⟩=some (.slice s.so s.sn s.sc)):=λW y=>⟨((h.keep BU).keep y).cellD 5 (by decide),((h.keep BU).keep y).cellD 6 (by decide)⟩
 have HL:Hid (∀W,Below U.heap.size U W->CstS qU W s.co s.cn s.cc e.conts):=λW y=>(hC.keep qJ (qD _ BU)).keep qJ (qD _ y)
 have GU:=jA (zH BU (some g));have HF:Hid (∀W (E:Int),1<=E->Below U.heap.size U W->Calls Tryz.prog 30 #[.pointer (some ⟨g,0,none⟩),.int .i64 E,.int .i64 l] W λx w'=>x=.returned (.tuple #[])/\St w' g (eC e s++T3) (z7 f E.toNat l)/\W.grownBy w' (some g)):=λW E hE y=>jO (eC e s++T3) f E.toNat l g W (((h.keep BU).keep y)) (by omega) E (by omega)
 have G:Hid (e.conts.length=s.cn):=hC.len;obtain⟨c6,b6⟩:=hC.caps;obtain⟨b9,b0⟩:=hS.caps;obtain⟨BV,a9⟩:∃X,Hid ((e.conts.map Cst.name).contains nm=X):=⟨_,rfl⟩;obtain⟨WV,a8⟩:∃X,Hid (zv nm=X):=⟨_,rfl⟩;rw[a9.o,a8.o] at hQ;rw[a8.o] at HW;clear hC hS h AU BU hz;have a1:Hid ((m.toList=[]/\R=6)\/(¬ m.toList=[]/\WV=false/\R=8)\/(¬ m.toList=[]/\WV=true/\24<m.size/\R=8)\/(¬ m.toList=[]/\WV=true/\¬ 24<m.size/\BV=true/\R=3)\/(¬ m.toList=[]/\WV=true/\¬ 24<m.size/\BV=false/\4<=s.cn/\R=7)\/(¬ m.toList=[]/\WV=true/\¬ 24<m.size/\BV=false/\¬ 4<=s.cn/\R=0)):=by
  have h:=hQ.o;rw[G.o] at h;show _\/_;rw[a2,J];by_cases c1:nm=[]
  . rw[if_pos c1] at h;exact Or.inl ⟨c1,h⟩
  . rw[if_neg c1] at h;cases WV with
    | false=>exact Or.inr (Or.inl ⟨c1,rfl,h⟩)
    | true =>
     rw[if_neg (by decide)] at h;by_cases c2:24<nm.length
     . rw[if_pos c2] at h;exact Or.inr (Or.inr (Or.inl ⟨c1,rfl,c2,h⟩))
     . rw[if_neg c2] at h;cases BV with
       | true=>exact Or.inr (Or.inr (Or.inr (Or.inl ⟨c1,rfl,c2,rfl,h⟩)))
       | false =>
        rw[if_neg (by decide)] at h;by_cases c3:4<=s.cn
        . rw[if_pos c3] at h;exact Or.inr (Or.inr (Or.inr (Or.inr (Or.inl ⟨c1,rfl,c2,rfl,c3,h⟩))))
        . rw[if_neg c3] at h;exact Or.inr (Or.inr (Or.inr (Or.inr (Or.inr ⟨c1,rfl,c2,rfl,c3,h⟩))))
 clear hQ a2 J;have b8:∀W a n c,(binOp .eql 26 (.slice a n c) (.slice none 0 0)).run Tryz.prog W=.ok (.bool a.isNone) W:=λW a n c=>Lib.run_eql_slice_nil W _ _ a n c 0 0 Tryz.underlying26
 obtain⟨y0,y1,y3⟩:=HY.o U (Below.refl _ _);obtain⟨d5,d6⟩:=HD.o U (Below.refl _ _);go_in;go_wp2_with fail;go_loopw [5,6,7] (λsm n i wr=>∃ (j:Nat) (B:Bool),j<=s.cn/\i=.int .i64 (j:Int)/\n=.int .i64 (j:Int)/\sm=.bool B/\Hid (B=((e.conts.take j).map Cst.name).contains nm)/\Hid (Below U.heap.size U wr)) (λ_ _ i _=>s.cn-(intOf i).toNat)
 case atStart=>exact⟨0,false,Nat.zero_le _,rfl,rfl,rfl,rfl,Below.refl _ _⟩
 case round =>
  obtain⟨w1,b7⟩:∃x,x=wr:=⟨_,rfl⟩;subst b7;obtain⟨j,B,hj,rfl,rfl,rfl,hB,BW⟩:=hrel;obtain⟨y0,y1,y3⟩:=HY.o w1 BW.o;obtain⟨d5,d6⟩:=HD.o w1 BW.o;by_cases a0:j<s.cn
  . (have a7:(j:Int)<(s.cn:Int):=by omega);obtain⟨x,a,vo,vn,vc,hx,i5,c0,_,_,_,_,_,_,_,_,_⟩:=(HL.o w1 BW.o).get j a0;have hq:=a5.o x.name;(have a3:Hid (((e.conts.take (j+1)).map Cst.name).contains nm=(B||nm == x.name)):=by show _=_;rw[Kc Cst.name hx,<- hB.o]);obtain⟨X,hX⟩:=jx1 (stg x.name);obtain⟨Z,hZ⟩:=jx3 ((nm == x.name));rw[hZ] at hq a3;rw[hX.o] at c0 hq;clear hZ hx a0;cases B with
    | true =>
     go_wp2_with fail;(go_quiet (fail));go_wp2_with fail;go_roundw;(case rel=>exact⟨j+1,true,by omega,by go_num,by go_num,rfl,by show _=_;rw[a3.o];rfl,below_drewN BW.o _⟩);case measure=>simp[intOf];omega
    | false =>
     go_wp2_with fail;(go_quiet (fail));go_wp2_with fail;go_roundw;(case rel=>exact⟨j+1,Z,by omega,by go_num,by go_num,rfl,by show _=_;rw[a3.o];rfl,below_drewN BW.o _⟩);case measure=>simp[intOf];omega
  . (have a7:¬ (j:Int)<(s.cn:Int):=by omega);(have b5:j=s.cn:=by omega);(have b4:B=BV:=by rw[hB.o,List.take_of_length_le (by have:=G.o;omega)];exact a9.o);subst b4;subst b5;clear hB a0;go_wp2_with fail;(go_loopw [5,6,8] (λsm n i wr=>sm=.bool B/\n=.int .i64 (s.cn:Int)/\i=.int .i64 0/\Hid (Below U.heap.size U wr)) (λ_ _ _ _=>0));(case atStart=>exact⟨rfl,rfl,rfl,BW⟩);case round =>
     obtain⟨w3,b3⟩:∃x,x=wr:=⟨_,rfl⟩;subst b3;obtain⟨rfl,rfl,rfl,BX⟩:=hrel;obtain⟨y0,y1,y3⟩:=HY.o w3 BX.o;obtain⟨d5,d6⟩:=HD.o w3 BX.o;by_cases h0:0<s.sn <;>
     (rcases a1.o with ⟨i2,rfl⟩|⟨i2,rfl,rfl⟩|⟨i2,rfl,i3,rfl⟩|⟨i2,rfl,i3,rfl,rfl⟩|⟨i2,rfl,i3,rfl,i4,rfl⟩|⟨i2,rfl,i3,rfl,i4,rfl⟩
      all_goals
       (first|(have i1:m.toList.isEmpty=true:=by rw[i2];rfl)|(have i1:m.toList.isEmpty=false:=by simpa using i2))
       (try (first|(have k3:decide ((m.size:Int) > 24)=true:=decide_eq_true (by omega))|(have k3:decide ((m.size:Int) > 24)=false:=decide_eq_false (by omega))));(try (first|(have k4:decide ((s.cn:Int)>=4)=true:=decide_eq_true (by omega))|(have k4:decide ((s.cn:Int)>=4)=false:=decide_eq_false (by omega))));go_wp2_with (first
         | (go_at_call 71;(with_reducible refine(HK.o w3).mono ?_);rintro x w4 ⟨ao,kn,kc,rfl,_,B4,hk⟩;obtain⟨ka,rfl⟩:∃a,ao=some a:=(by cases ao with|none=>exact absurd (hk.2 rfl) (by decide)|some a=>exact⟨a,rfl⟩);have H:=jA (BX.o.trans (B4.mono BX.o.size));obtain⟨p0,p1,p3⟩:=HY.o w4 H.o;obtain⟨r5,r6⟩:=HD.o w4 H.o)
         | (go_at_call 124;(with_reducible refine(HW.o w4).mono ?_);rintro x w5 ⟨rfl,rfl⟩)
         | (go_at_call 30;(with_reducible refine(HF.o w4 _ (by decide) H.o).mono ?_);rintro x w6 ⟨rfl,S6,G6⟩)
         | fail)
       (try (go_quiet (fail);go_wp2_with fail));go_end0
       first|exact⟨rfl,S6,qC GU.o (qC (zH H.o _) G6)⟩|exact⟨rfl,by rw[jG];exact a6.o _ H.o,qC GU.o (zH H.o _)⟩|exact⟨rfl,by rw[jG];exact a6.o _ (below_drewN H.o _),qC GU.o (zH (below_drewN H.o _) _)⟩)
theorem Js(nm:List UInt8)(fo:Option Addr)(fn fc:Nat)(l:Int)(e:Elc)(s:ESl)(seen:List (List UInt8))(T3:List Value)(hT3:T3.length=3)(f:Nat×Int)(g:Nat)(w:World)(hC:CstS qU w s.co s.cn s.cc e.conts)(hS:StyS qU w s.so s.sn s.sc e.stys)(hcn:s.cn<=1000000)(hsn:s.sn<=1000000)(hnm:nm.length<=1000000)(h:St w g (eC e s++T3) f) :
    Calls Tryz.prog 70 #[.pointer (some ⟨g,0,none⟩),.agg #[.string (stg qI),.string (stg nm),.slice fo fn fc,.int .i64 l]] w λx w'=>x=.returned (.tuple #[])/\St w' g (eC e s++T3) (z7 f (yz (e.conts.map Cst.name) (e.stys.map Sty.name) seen qI nm) l)/\w.grownBy w' (some g):=by
 have hQ:Hid (yz (e.conts.map Cst.name) (e.stys.map Sty.name) seen qI nm=if nm=[] then 6 else if zv nm=false then 8 else if 24<nm.length then 8 else if (e.stys.map Sty.name).contains nm=true then 3 else if 6<=e.stys.length then 7 else 0):=by
  show _=_;unfold yz;rw[if_neg (show ¬ zb qI=[] by decide)];by_cases h1:nm=[]
  . rw[if_pos h1,if_pos (by simp[h1])]
  . rw[if_neg h1,if_neg (by simp[h1])];cases hw:zv nm with
    | false=>simp +decide 
    | true =>
     by_cases h2:24<nm.length
     . simp +decide [h2]
     . by_cases h3:(e.stys.map Sty.name).contains nm=true
       . simp +decide [h2,h3]
       . by_cases h4:6<=e.stys.length<;>simp +decide [h2,h3,h4]
 obtain⟨R,hR⟩:∃X,Hid (yz (e.conts.map Cst.name) (e.stys.map Sty.name) seen qI nm=X):=⟨_,rfl⟩;rw[hR.o] at hQ |-;obtain⟨U,e1,AU,BU,hz⟩:=qG w 55 [.string (stg qI),.string (stg nm),.slice fo fn fc,.int .i64 l];have b1:((stg qI).toList == [115,116,121,108,101])=true:=j9 qI;have b2:((stg qI).toList == [99,111,110,116,101,115,116])=false:=jh (v:=qF) (by decide);have HK:Hid (∀W,jC 71 #[.string (stg qI)] W λe w'=>∃ao n c,e=.returned (.slice ao n c)/\StrL (qS W.heap.size [9]) w' ao n c (zb qI)/\Below W.heap.size W w'/\(zb qI=[]↔ao=none)):=λW=>gp qI W
 have HW:Hid (∀W,jC 124 #[.string (stg nm)] W λe w'=>e=.returned (.bool (zv nm))/\W=w'):=λW=>by
  have:=KU (stg nm) W (by rw[kt];exact hnm);rw[zL] at this;exact this
 have a2:((stg nm).toList=[])↔nm=[]:=by rw[xH,zL]
 have J:(stg nm).size=nm.length:=kt nm;obtain⟨KK,V⟩:∃K,Hid (stg qI=K):=⟨_,rfl⟩;have a5:Hid (∀x:List UInt8,((stg x).toList == (stg nm).toList)=(nm == x)):=λx=>by
  rw[kq];by_cases e:x=nm
  . rw[decide_eq_true e,e];simp
  . rw[decide_eq_false e];exact(beq_eq_false_iff_ne.2 λh=>e h.symm).symm
 obtain⟨m,a4⟩:∃K,Hid (stg nm=K):=⟨_,rfl⟩;rw[V.o,a4.o] at e1 AU;rw[V.o] at b1 b2 HK;rw[a4.o] at HW a2 J a5;rw[V.o,a4.o];have HY:Hid (∀W,Below U.heap.size U W->W.cell? ⟨w.heap.size,0,none⟩=some (.string KK)/\W.cell? ⟨w.heap.size,1,none⟩=some (.string m)/\W.cell? ⟨w.heap.size,3,none⟩=some (.int .i64 l)):=λW y=>⟨(AU.kept y).cell 0,(AU.kept y).cell 1,(AU.kept y).cell 3⟩
 have a6:Hid (∀W,Below U.heap.size U W->St W g (eC e s++T3) f):=λW y=>(h.keep BU).keep y
 have HD:Hid (∀W,Below U.heap.size U W->W.cell? ⟨g,5,none⟩=some (.slice s.co s.cn s.cc)/\W.cell? ⟨g,6,none⟩=some (.slice s.so s.sn s.sc)):=λW y=>⟨((h.keep BU).keep y).cellD 5 (by decide),((h.keep BU).keep y).cellD 6 (by decide)⟩
 have HL:Hid (∀W,Below U.heap.size U W->StyS qU W s.so s.sn s.sc e.stys):=λW y=>(hS.keep qJ (qD _ BU)).keep qJ (qD _ y)
 have GU:=jA (zH BU (some g));have HF:Hid (∀W (E:Int),1<=E->Below U.heap.size U W->Calls Tryz.prog 30 #[.pointer (some ⟨g,0,none⟩),.int .i64 E,.int .i64 l] W λx w'=>x=.returned (.tuple #[])/\St w' g (eC e s++T3) (z7 f E.toNat l)/\W.grownBy w' (some g)):=λW E hE y=>jO (eC e s++T3) f E.toNat l g W (((h.keep BU).keep y)) (by omega) E (by omega)
 have G:Hid (e.stys.length=s.sn):=hS.len;obtain⟨c6,b6⟩:=hS.caps;obtain⟨b9,b0⟩:=hC.caps;obtain⟨BV,a9⟩:∃X,Hid ((e.stys.map Sty.name).contains nm=X):=⟨_,rfl⟩;obtain⟨WV,a8⟩:∃X,Hid (zv nm=X):=⟨_,rfl⟩;rw[a9.o,a8.o] at hQ;rw[a8.o] at HW;clear hC hS h AU BU hz;have a1:Hid ((m.toList=[]/\R=6)\/(¬ m.toList=[]/\WV=false/\R=8)\/(¬ m.toList=[]/\WV=true/\24<m.size/\R=8)\/(¬ m.toList=[]/\WV=true/\¬ 24<m.size/\BV=true/\R=3)\/(¬ m.toList=[]/\WV=true/\¬ 24<m.size/\BV=false/\6<=s.sn/\R=7)\/(¬ m.toList=[]/\WV=true/\¬ 24<m.size/\BV=false/\¬ 6<=s.sn/\R=0)):=by
  have h:=hQ.o;rw[G.o] at h;show _\/_;rw[a2,J];by_cases c1:nm=[]
  . rw[if_pos c1] at h;exact Or.inl ⟨c1,h⟩
  . rw[if_neg c1] at h;cases WV with
    | false=>exact Or.inr (Or.inl ⟨c1,rfl,h⟩)
    | true =>
     rw[if_neg (by decide)] at h;by_cases c2:24<nm.length
     . rw[if_pos c2] at h;exact Or.inr (Or.inr (Or.inl ⟨c1,rfl,c2,h⟩))
     . rw[if_neg c2] at h;cases BV with
       | true=>exact Or.inr (Or.inr (Or.inr (Or.inl ⟨c1,rfl,c2,rfl,h⟩)))
       | false =>
        rw[if_neg (by decide)] at h;by_cases c3:6<=s.sn
        . rw[if_pos c3] at h;exact Or.inr (Or.inr (Or.inr (Or.inr (Or.inl ⟨c1,rfl,c2,rfl,c3,h⟩))))
        . rw[if_neg c3] at h;exact Or.inr (Or.inr (Or.inr (Or.inr (Or.inr ⟨c1,rfl,c2,rfl,c3,h⟩))))
 clear hQ a2 J;have b8:∀W a n c,(binOp .eql 26 (.slice a n c) (.slice none 0 0)).run Tryz.prog W=.ok (.bool a.isNone) W:=λW a n c=>Lib.run_eql_slice_nil W _ _ a n c 0 0 Tryz.underlying26
 obtain⟨y0,y1,y3⟩:=HY.o U (Below.refl _ _);obtain⟨d5,d6⟩:=HD.o U (Below.refl _ _);go_in;go_wp2_with fail;go_loopw [5,6,7] (λsm n i wr=>sm=.bool false/\n=.int .i64 0/\i=.int .i64 0/\Hid (Below U.heap.size U wr)) (λ_ _ _ _=>0)
 case atStart=>exact⟨rfl,rfl,rfl,Below.refl _ _⟩
 case round =>
  obtain⟨w3,b3⟩:∃x,x=wr:=⟨_,rfl⟩;subst b3;obtain⟨rfl,rfl,rfl,BX⟩:=hrel;obtain⟨y0,y1,y3⟩:=HY.o w3 BX.o;obtain⟨d5,d6⟩:=HD.o w3 BX.o;by_cases h0:0<s.cn <;>
  (go_wp2_with fail)
  all_goals
    (go_loopw [5,6,8] (λsm n i wr=>∃ (j:Nat) (B:Bool),j<=s.sn/\i=.int .i64 (j:Int)/\n=.int .i64 (j:Int)/\sm=.bool B/\Hid (B=((e.stys.take j).map Sty.name).contains nm)/\Hid (Below U.heap.size U wr)) (λ_ _ i _=>s.sn-(intOf i).toNat));(case atStart=>exact⟨0,false,Nat.zero_le _,rfl,rfl,rfl,rfl,BX⟩);case round =>
     obtain⟨w1,b7⟩:∃x,x=wr:=⟨_,rfl⟩;subst b7;obtain⟨j,B,hj,rfl,rfl,rfl,hB,BW⟩:=hrel;obtain⟨y0,y1,y3⟩:=HY.o w1 BW.o;obtain⟨d5,d6⟩:=HD.o w1 BW.o;by_cases a0:j<s.sn
     . (have a7:(j:Int)<(s.sn:Int):=by omega);obtain⟨x,a,po,ko,pn,pc,kn,kc,hx,i5,c0,_,_,_,_⟩:=(HL.o w1 BW.o).get j a0;have hq:=a5.o x.name;(have a3:Hid (((e.stys.take (j+1)).map Sty.name).contains nm=(B||nm == x.name)):=by show _=_;rw[Kc Sty.name hx,<- hB.o]);obtain⟨X,hX⟩:=jx1 (stg x.name);obtain⟨Z,hZ⟩:=jx3 ((nm == x.name));rw[hZ] at hq a3;rw[hX.o] at c0 hq;clear hZ hx a0;cases B with
       | true =>
        go_wp2_with fail;(go_quiet (fail));go_wp2_with fail;go_roundw;(case rel=>exact⟨j+1,true,by omega,by go_num,by go_num,rfl,by show _=_;rw[a3.o];rfl,below_drewN BW.o _⟩);case measure=>simp[intOf];omega
       | false =>
        go_wp2_with fail;(go_quiet (fail));go_wp2_with fail;go_roundw;(case rel=>exact⟨j+1,Z,by omega,by go_num,by go_num,rfl,by show _=_;rw[a3.o];rfl,below_drewN BW.o _⟩);case measure=>simp[intOf];omega
     . (have a7:¬ (j:Int)<(s.sn:Int):=by omega);(have b5:j=s.sn:=by omega);(have b4:B=BV:=by rw[hB.o,List.take_of_length_le (by have:=G.o;omega)];exact a9.o);subst b4;subst b5;clear hB a0
       (rcases a1.o with ⟨i2,rfl⟩|⟨i2,rfl,rfl⟩|⟨i2,rfl,i3,rfl⟩|⟨i2,rfl,i3,rfl,rfl⟩|⟨i2,rfl,i3,rfl,i4,rfl⟩|⟨i2,rfl,i3,rfl,i4,rfl⟩
        all_goals
         (first|(have i1:m.toList.isEmpty=true:=by rw[i2];rfl)|(have i1:m.toList.isEmpty=false:=by simpa using i2))
         (try (first|(have k3:decide ((m.size:Int) > 24)=true:=decide_eq_true (by omega))|(have k3:decide ((m.size:Int) > 24)=false:=decide_eq_false (by omega))));(try (first|(have k4:decide ((s.sn:Int)>=6)=true:=decide_eq_true (by omega))|(have k4:decide ((s.sn:Int)>=6)=false:=decide_eq_false (by omega))));go_wp2_with (first
           | (go_at_call 71;(with_reducible refine(HK.o w1).mono ?_);rintro x w4 ⟨ao,kn,kc,rfl,_,B4,hk⟩;obtain⟨ka,rfl⟩:∃a,ao=some a:=(by cases ao with|none=>exact absurd (hk.2 rfl) (by decide)|some a=>exact⟨a,rfl⟩);have H:=jA (BW.o.trans (B4.mono BW.o.size));obtain⟨p0,p1,p3⟩:=HY.o w4 H.o;obtain⟨r5,r6⟩:=HD.o w4 H.o)
           | (go_at_call 124;(with_reducible refine(HW.o w4).mono ?_);rintro x w5 ⟨rfl,rfl⟩)
           | (go_at_call 30;(with_reducible refine(HF.o w4 _ (by decide) H.o).mono ?_);rintro x w6 ⟨rfl,S6,G6⟩)
           | fail)
         (try (go_quiet (fail);go_wp2_with fail));go_end0
         first|exact⟨rfl,S6,qC GU.o (qC (zH H.o _) G6)⟩|exact⟨rfl,by rw[jG];exact a6.o _ H.o,qC GU.o (zH H.o _)⟩|exact⟨rfl,by rw[jG];exact a6.o _ (below_drewN H.o _),qC GU.o (zH (below_drewN H.o _) _)⟩)
def fS(B:Nat)(q r:Option Nat):World->Nat->Prop:=λw k=>qS B [9] w k/\q≠some k/\r≠some k
theorem zE(B:Nat)(q r:Option Nat):jR (fS B q r):=λw w' k hk he ⟨h,h2⟩=>⟨qE _ _ w w' k hk he h,h2⟩
theorem jE{B:Nat}{q r:Option Nat}{w w':World}(h:Keeps (qS B [9]) w w'):Keeps (fS B q r) w w':=λk hk ⟨hs,_⟩=>h k hk hs
def NC(S:World->Nat->Prop)(w:World):List (List (List UInt8)×List (List UInt8))->List Value->Prop
  | [],us=>us=[]
  | x :: xs,us=>∃ao n c bo m d r,us=.slice ao n c :: .slice bo m d :: r/\StrL S w ao n c x.1/\StrL S w bo m d x.2/\NC S w xs r
section
variable {S T : World -> Nat -> Prop} {w w' : World}
theorem NC.keep(hS:jR S)(hk:Keeps S w w'):∀ {xs:List (List (List UInt8)×List (List UInt8))} {us:List Value},NC S w xs us->NC S w' xs us
  | [],_,h=>h
  | _ :: _,_,⟨ao,n,c,bo,m,d,r,h1,h2,h3,h4⟩=>⟨ao,n,c,bo,m,d,r,h1,Row.keep h2 hS hk,Row.keep h3 hS hk,NC.keep hS hk h4⟩
theorem NC.mono(hm:∀k,S w k->T w k):∀ {xs:List (List (List UInt8)×List (List UInt8))} {us:List Value},NC S w xs us->NC T w xs us
  | [],_,h=>h
  | _ :: _,_,⟨ao,n,c,bo,m,d,r,h1,h2,h3,h4⟩=>⟨ao,n,c,bo,m,d,r,h1,Row.mono h2 hm,Row.mono h3 hm,NC.mono hm h4⟩
theorem NC.append:∀ {fs:List (List (List UInt8)×List (List UInt8))} {us:List Value} {gs:List (List (List UInt8)×List (List UInt8))} {vs:List Value},NC S w fs us->NC S w gs vs->NC S w (fs++gs) (us++vs)
  | [],_,_,_,h,k=>by
   have:_=[]:=h;subst this;exact k
  | _ :: _,_,_,_,⟨ao,n,c,bo,m,d,r,h1,h2,h3,h4⟩,k=>by
   subst h1;exact⟨ao,n,c,bo,m,d,_,rfl,h2,h3,NC.append h4 k⟩
theorem NC.len:∀ {xs:List (List (List UInt8)×List (List UInt8))} {us:List Value},NC S w xs us->us.length=xs.length*2
  | [],_,h=>by
   have:_=[]:=h;subst this;rfl
  | _ :: xs,_,⟨ao,n,c,bo,m,d,r,h1,_,_,h4⟩=>by
   subst h1;have:=NC.len h4;simp only[List.length_cons];omega
end
structure RSl where
 s:ESl
 qo:Option Addr
 qn:Nat
 qc:Nat
 lo:Option Addr
 ln:Nat
 lc:Nat
 no:Option Addr
 nn:Nat
 nc:Nat
def rC(r:RSt)(z:RSl):List Value:=eC r.e z.s++[.slice z.qo z.qn z.qc,.slice z.lo z.ln z.lc,.slice z.no z.nn z.nc]
def yZ(xs:List Sty):List Value:=xs.flatMap λx=>[.string (stg x.name),.slice none 0 0,.slice none 0 0]
def wI(xs:List (Int×Int)):List Value:=xs.flatMap λp=>[.int .i64 p.1,.int .i64 p.2]
structure RR (B:Nat) (K:Option Nat) (w:World) (r:RSt) (z:RSl):Prop where
 precs:StrL (fS B (Value.slice z.qo z.qn z.qc).ownBlock K) w z.s.po z.s.pn z.s.pc r.e.precs
 conts:∃us,w.ownsRow B 76 9 (.slice z.s.co z.s.cn z.s.cc) z.s.cn us/\CC (fS B (Value.slice z.qo z.qn z.qc).ownBlock K) w r.e.conts us
 stys:w.ownsRow B 60 3 (.slice z.s.so z.s.sn z.s.sc) z.s.sn (yZ r.e.stys)
 num:IntL .u32 (qS B [144]) w z.s.uo z.s.un z.s.uc r.e.rnum
 den:IntL .u32 (qS B [144]) w z.s.dO z.s.dn z.s.dc r.e.rden
 seen:w.ownsRow B 9 1 (.slice z.qo z.qn z.qc) z.qn (r.seen.map λv=>.string (stg v))
 lines:w.ownsRow B 123 2 (.slice z.lo z.ln z.lc) z.ln (wI r.lines)
 names:∃us,w.ownsRow B 122 2 (.slice z.no z.nn z.nc) z.nn us/\NC (fS B (Value.slice z.qo z.qn z.qc).ownBlock K) w r.names us
section
variable {B : Nat} {K : Option Nat} {w w' : World} {r : RSt} {z : RSl}
theorem RR.below(h:RR B K w r z)(hb:Below w.heap.size w w'):RR B K w' r z:=by
 obtain⟨us,m,H⟩:=h.conts;obtain⟨ns,y,G⟩:=h.names;exact⟨Row.keep h.precs (zE _ _ _) (qD _ hb),⟨us,qQ m hb,H.keep (zE _ _ _) (qD _ hb)⟩,qQ h.stys hb,qT h.num hb,qT h.den hb,qQ h.seen hb,qQ h.lines hb,⟨ns,qQ y hb,G.keep (zE _ _ _) (qD _ hb)⟩⟩
theorem RR.box{g:Nat}{T:TypeId}{cs:List Value}(h:RR B K w r z)(hA:Arr w g T cs)(hT:T∉[9,3,144,76,60,123,122])(hg:w.grownBy w' (some g)):RR B K w' r z:=by
 obtain⟨us,y,h2⟩:=h.conts;obtain⟨ns,H,V⟩:=h.names;simp only[List.mem_cons,List.not_mem_nil,or_false,not_or] at hT;obtain⟨J,t2,t3,t4,t5,t6,Z⟩:=hT;have m:Keeps (qS B [9]) w w':=zD hA (by simpa using J) hg;have G:Keeps (qS B [144]) w w':=zD hA (by simpa using t3) hg;exact⟨Row.keep h.precs (zE _ _ _) (jE m),⟨us,World.ownsRow.kept y hg (Or.inr (zI y hA t4)),h2.keep (zE _ _ _) (jE m)⟩,World.ownsRow.kept h.stys hg (Or.inr (zI h.stys hA t5)),Row.keep h.num (qE _ _) G,Row.keep h.den (qE _ _) G,World.ownsRow.kept h.seen hg (Or.inr (zI h.seen hA J)),World.ownsRow.kept h.lines hg (Or.inr (zI h.lines hA t6)),⟨ns,World.ownsRow.kept H hg (Or.inr (zI H hA Z)),V.keep (zE _ _ _) (jE m)⟩⟩
theorem RR.contest{vs:List Value}{x:Cst}(h:RR B K w r z)(hr:w.ownsRow B 76 9 (.slice z.s.co z.s.cn z.s.cc) z.s.cn us)(hc:CC (fS B (Value.slice z.qo z.qn z.qc).ownBlock K) w r.e.conts us)(hx:CC (fS B (Value.slice z.qo z.qn z.qc).ownBlock K) w [x] vs)
    (ho:w'.ownsRow B 76 9 (.slice ao' (z.s.cn+1) c') (z.s.cn+1) (us++vs)) (hg:w.grownBy w' (Value.slice z.s.co z.s.cn z.s.cc).ownBlock):RR B K w' { r with e:={ r.e with conts:=r.e.conts++[x] } } { z with s:={ z.s with co:=ao',cn:=z.s.cn+1,cc:=c' } }:=by
 obtain⟨ns,G,H⟩:=h.names;have m:Keeps (qS B [9]) w w':=zS hr hg (by decide);have y:Keeps (qS B [144]) w w':=zS hr hg (by decide);exact⟨Row.keep h.precs (zE _ _ _) (jE m),⟨_,ho,CC.append (hc.keep (zE _ _ _) (jE m)) (hx.keep (zE _ _ _) (jE m))⟩,World.ownsRow.kept h.stys hg (qv h.stys hr (by decide)),Row.keep h.num (qE _ _) y,Row.keep h.den (qE _ _) y,World.ownsRow.kept h.seen hg (qv h.seen hr (by decide)),World.ownsRow.kept h.lines hg (qv h.lines hr (by decide)),⟨ns,World.ownsRow.kept G hg (qv G hr (by decide)),H.keep (zE _ _ _) (jE m)⟩⟩
theorem RR.style{x:Sty}(h:RR B K w r z)
    (ho:w'.ownsRow B 60 3 (.slice ao' (z.s.sn+1) c') (z.s.sn+1) (yZ r.e.stys++[.string (stg x.name),.slice none 0 0,.slice none 0 0])) (hg:w.grownBy w' (Value.slice z.s.so z.s.sn z.s.sc).ownBlock):RR B K w' { r with e:={ r.e with stys:=r.e.stys++[x] } } { z with s:={ z.s with so:=ao',sn:=z.s.sn+1,sc:=c' } }:=by
 obtain⟨G,V,h4⟩:=h.conts;obtain⟨ns,J,Z⟩:=h.names;have m:=h.stys;have y:Keeps (qS B [9]) w w':=zS m hg (by decide);have H:Keeps (qS B [144]) w w':=zS m hg (by decide);have e:yZ (r.e.stys++[x])=yZ r.e.stys++[.string (stg x.name),.slice none 0 0,.slice none 0 0]:=by
  unfold yZ;rw[List.flatMap_append];rfl
 refine⟨Row.keep h.precs (zE _ _ _) (jE y),⟨G,World.ownsRow.kept V hg (qv V m (by decide)),h4.keep (zE _ _ _) (jE y)⟩,?_,Row.keep h.num (qE _ _) H,Row.keep h.den (qE _ _) H,World.ownsRow.kept h.seen hg (qv h.seen m (by decide)),World.ownsRow.kept h.lines hg (qv h.lines m (by decide)),⟨ns,World.ownsRow.kept J hg (qv J m (by decide)),Z.keep (zE _ _ _) (jE y)⟩⟩;show w'.ownsRow B 60 3 (.slice ao' (z.s.sn+1) c') (z.s.sn+1) (yZ (r.e.stys++[x]));rw[e];exact ho
theorem RR.line{p:Int×Int}(h:RR B K w r z)
    (ho:w'.ownsRow B 123 2 (.slice ao' (z.ln+1) c') (z.ln+1) (wI r.lines++[.int .i64 p.1,.int .i64 p.2])) (hg:w.grownBy w' (Value.slice z.lo z.ln z.lc).ownBlock):RR B K w' { r with lines:=r.lines++[p] } { z with lo:=ao',ln:=z.ln+1,lc:=c' }:=by
 obtain⟨G,V,h4⟩:=h.conts;obtain⟨ns,J,Z⟩:=h.names;have m:=h.lines;have y:Keeps (qS B [9]) w w':=zS m hg (by decide);have H:Keeps (qS B [144]) w w':=zS m hg (by decide);refine⟨Row.keep h.precs (zE _ _ _) (jE y),⟨G,World.ownsRow.kept V hg (qv V m (by decide)),h4.keep (zE _ _ _) (jE y)⟩,World.ownsRow.kept h.stys hg (qv h.stys m (by decide)),Row.keep h.num (qE _ _) H,Row.keep h.den (qE _ _) H,World.ownsRow.kept h.seen hg (qv h.seen m (by decide)),?_,⟨ns,World.ownsRow.kept J hg (qv J m (by decide)),Z.keep (zE _ _ _) (jE y)⟩⟩;have e:wI (r.lines++[p])=wI r.lines++[.int .i64 p.1,.int .i64 p.2]:=by
  unfold wI;rw[List.flatMap_append];rfl
 show w'.ownsRow B 123 2 (.slice ao' (z.ln+1) c') (z.ln+1) (wI (r.lines++[p]));rw[e];exact ho
theorem RR.name{vs:List Value}{x:List (List UInt8)×List (List UInt8)}(h:RR B K w r z)(hr:w.ownsRow B 122 2 (.slice z.no z.nn z.nc) z.nn us)(hc:NC (fS B (Value.slice z.qo z.qn z.qc).ownBlock K) w r.names us)(hx:NC (fS B (Value.slice z.qo z.qn z.qc).ownBlock K) w [x] vs)
    (ho:w'.ownsRow B 122 2 (.slice ao' (z.nn+1) c') (z.nn+1) (us++vs)) (hg:w.grownBy w' (Value.slice z.no z.nn z.nc).ownBlock):RR B K w' { r with names:=r.names++[x] } { z with no:=ao',nn:=z.nn+1,nc:=c' }:=by
 obtain⟨y,H,J⟩:=h.conts;have m:Keeps (qS B [9]) w w':=zS hr hg (by decide);have G:Keeps (qS B [144]) w w':=zS hr hg (by decide);exact⟨Row.keep h.precs (zE _ _ _) (jE m),⟨y,World.ownsRow.kept H hg (qv H hr (by decide)),J.keep (zE _ _ _) (jE m)⟩,World.ownsRow.kept h.stys hg (qv h.stys hr (by decide)),Row.keep h.num (qE _ _) G,Row.keep h.den (qE _ _) G,World.ownsRow.kept h.seen hg (qv h.seen hr (by decide)),World.ownsRow.kept h.lines hg (qv h.lines hr (by decide)),⟨_,ho,NC.append (hc.keep (zE _ _ _) (jE m)) (hx.keep (zE _ _ _) (jE m))⟩⟩
theorem RR.see{x:List UInt8}{m:Nat}(h:RR B K w r z)(hm:w.heap.size<=m)
    (ho:w'.ownsRow B 9 1 (.slice ao' (z.qn+1) c') (z.qn+1) ((r.seen.map λv=>Value.string (stg v))++[.string (stg x)])) (hg:w.grownBy w' (Value.slice z.qo z.qn z.qc).ownBlock) (hob:(Value.slice ao' (z.qn+1) c').ownBlock=(Value.slice z.qo z.qn z.qc).ownBlock\/(Value.slice ao' (z.qn+1) c').ownBlock=some m):RR B K w' { r with seen:=r.seen++[x] } { z with qo:=ao',qn:=z.qn+1,qc:=c' }:=by
 obtain⟨us,h1,h2⟩:=h.conts;obtain⟨ns,h5,h6⟩:=h.names;have H:=h.seen;let S2:World->Nat->Prop:=λw k=>fS B (Value.slice z.qo z.qn z.qc).ownBlock K w k/\(Value.slice ao' (z.qn+1) c').ownBlock≠some k
 have y:jR S2:=λw w' k G he ⟨J,a2⟩=>⟨zE _ _ _ w w' k G he J,a2⟩
 have Z:∀k,fS B (Value.slice z.qo z.qn z.qc).ownBlock K w k->S2 w k:=λk J=>⟨J,λe=>by
  rcases hob with e1|e1
  . exact J.2.1 (e1.symm.trans e)
  . rw[e1] at e;injection e with e;have:=Zx J.1;omega⟩
 have V:Keeps S2 w w':=jL hg (λk G=>G.1.2.1);have dn:∀k,S2 w' k->fS B (Value.slice ao' (z.qn+1) c').ownBlock K w' k:=λk G=>⟨G.1.1,G.2,G.1.2.2⟩
 have k3:Keeps (qS B [144]) w w':=zS H hg (by decide);exact⟨Row.mono (Row.keep (Row.mono h.precs Z) y V) dn,⟨us,World.ownsRow.kept h1 hg (qv h1 H (by decide)),((h2.mono Z).keep y V).mono dn⟩,World.ownsRow.kept h.stys hg (qv h.stys H (by decide)),Row.keep h.num (qE _ _) k3,Row.keep h.den (qE _ _) k3,by show w'.ownsRow B 9 1 (.slice ao' (z.qn+1) c') (z.qn+1) ((r.seen++[x]).map λv=>Value.string (stg v));rw[List.map_append];exact ho,World.ownsRow.kept h.lines hg (qv h.lines H (by decide)),⟨ns,World.ownsRow.kept h5 hg (qv h5 H (by decide)),((h6.mono Z).keep y V).mono dn⟩⟩
end
theorem RR.known{B Bk n:Nat}{v:Value}{K':Option Nat}{w w':World}{r:RSt}{z:RSl}(h:RR B v.ownBlock w r z)(hr:w.ownsRow Bk 9 1 v n us)(hB:B<=Bk)(hq:(Value.slice z.qo z.qn z.qc).ownBlock=none\/(Value.slice z.qo z.qn z.qc).ownBlock≠v.ownBlock)
    (hg:w.grownBy w' v.ownBlock) (hob:K'=v.ownBlock\/K'=some (w.heap.size+1)):RR B K' w' r z:=by
 obtain⟨Z,h1,h2⟩:=h.conts;obtain⟨ns,h5,h6⟩:=h.names;have m:w.ownsRow B 9 1 v n us:=⟨hr.1,hr.2.imp id λ⟨q,cap,cur,G,a2,a3⟩=>⟨q,cap,cur,G,Nat.le_trans hB a2,a3⟩⟩;let S2:World->Nat->Prop:=λw k=>fS B (Value.slice z.qo z.qn z.qc).ownBlock v.ownBlock w k/\K'≠some k
 have y:jR S2:=λw w' k H he ⟨G,a2⟩=>⟨zE _ _ _ w w' k H he G,a2⟩
 have V:∀k,fS B (Value.slice z.qo z.qn z.qc).ownBlock v.ownBlock w k->S2 w k:=λk G=>⟨G,λe=>by
  rcases hob with e1|e1
  . exact G.2.2 (e1.symm.trans e)
  . rw[e1] at e;injection e with e;have:=Zx G.1;omega⟩
 have J:Keeps S2 w w':=jL hg (λk H=>H.1.2.2);have dn:∀k,S2 w' k->fS B (Value.slice z.qo z.qn z.qc).ownBlock K' w' k:=λk H=>⟨H.1.1,H.1.2.1,H.2⟩
 have k3:Keeps (qS B [144]) w w':=zS m hg (by decide);exact⟨Row.mono (Row.keep (Row.mono h.precs V) y J) dn,⟨Z,World.ownsRow.kept h1 hg (qv h1 m (by decide)),((h2.mono V).keep y J).mono dn⟩,World.ownsRow.kept h.stys hg (qv h.stys m (by decide)),Row.keep h.num (qE _ _) k3,Row.keep h.den (qE _ _) k3,World.ownsRow.kept h.seen hg hq,World.ownsRow.kept h.lines hg (qv h.lines m (by decide)),⟨ns,World.ownsRow.kept h5 hg (qv h5 m (by decide)),((h6.mono V).keep y J).mono dn⟩⟩
end Go.Proofs.YtkefajjcpcoajaaGreatDoor
namespace Go.Proofs.YtkefajjcpcoajaaGreatDoor.Lx
variable {kind:List UInt8}
theorem Vy(kind:List UInt8)(e:List zC)(f:zC)(r:List zC):jZ kind e (f :: r)=if jp kind e f≠0 then (jp kind e f,f.line) else jZ kind (e++[f]) r:=rfl
theorem JD{key:List UInt8}:(zb kind).contains key=(zi kind key).isSome:=by
 unfold zb zi;induction zf with
 | nil=>rfl
 | cons r l ih =>
  rw[List.filter_cons,List.find?_cons];by_cases y:r.kind=kind
  . rw[if_pos (by simp[y]),List.map_cons,List.contains_cons,ih];by_cases m:r.key=key
    . rw[show(key == r.key)=true from by simp[m],show(decide (r.kind=kind)&&decide (r.key=key))=true from by simp[y,m]];rfl
    . rw[show(key == r.key)=false from by simpa using λe=>m (Eq.symm e),show(decide (r.kind=kind)&&decide (r.key=key))=false from by simp[m]];rfl
  . rw[if_neg (by simp[y]),ih,show(decide (r.kind=kind)&&decide (r.key=key))=false from by simp[y]]
theorem gv(F:List zC)(key:List UInt8):(F.map zC.key).contains key=F.any λg=>decide (g.key=key):=by
 induction F with
 | nil=>rfl
 | cons g r ih =>
  rw[List.map_cons,List.contains_cons,List.any_cons,ih];congr 1;by_cases h:g.key=key
  . simp[h]
  . simpa[h] using λe=>h (Eq.symm e)
theorem UX{e:List zC}{f:zC}{r:jj}(hr:zi kind f.key=some r)(he:(e.any λg=>decide (g.key=f.key))=false):jp kind e f=if r.form=2 then vL r f.vals else if f.vals.length≠1 then 7 else xf r ((f.vals[0]?).getD []):=by
 unfold jp;rw[hr];show(if _ then _ else _)=_;rw[he];rfl
theorem JE{e:List zC}{f:zC}(hr:zi kind f.key=none):jp kind e f=2:=by
 unfold jp;rw[hr]
theorem Xx{e:List zC}{f:zC}{r:jj}(hr:zi kind f.key=some r)(he:(e.any λg=>decide (g.key=f.key))=true):jp kind e f=3:=by
 unfold jp;rw[hr];show(if _ then _ else _)=_;rw[he];rfl
def xi(r:jj)(vs:List (List UInt8)):Nat:=if r.form=2 then vL r vs else if vs.length≠1 then 7 else xf r ((vs[0]?).getD [])
theorem xW{r:jj}(h:r.form=0)(vs:List (List UInt8)):xi r vs=jt vs (gJ r.least r.most):=by
 unfold xi jt xf;rw[h];rfl
theorem wa{r:jj}(h:r.form=2)(hl:r.least=1)(vs:List (List UInt8)):xi r vs=yw r.most vs:=by
 unfold xi vL yw;rw[if_pos h,hl]
theorem gw{r:jj}{ws:List (List UInt8)}(h:r.form=1)(hw:jP r.key=[] :: ws)(h0:([]:List UInt8)∉ws)(vs:List (List UInt8)):xi r vs=jt vs (chE ws):=by
 unfold xi jt xf;rw[h,(Wa hw h0 _).2];rfl
theorem UY{r:jj}(h:r.form=3)(vs:List (List UInt8)):xi r vs=jt vs jl:=by
 unfold xi jt xf;rw[h];rfl
theorem UZ{r:jj}(h:r.form=4)(vs:List (List UInt8)):xi r vs=jt vs gj:=by
 unfold xi jt xf gj;rw[h];rfl
theorem U3(b:qK):jv b=(zb b.kind).any λk => !(decide (k=qY) && !decide (kL b zG=2)) && !xQ b k:=by
 unfold jv zb;induction zf with
 | nil=>rfl
 | cons r l ih =>
  rw[List.any_cons,List.filter_cons,ih];by_cases h:r.kind=b.kind
  . rw[if_pos (by simp[h]),List.map_cons,List.any_cons,decide_eq_true h,Bool.true_and]
  . rw[if_neg (by simp[h]),decide_eq_false h,Bool.false_and,Bool.false_and,Bool.false_or]
theorem Vz(b:qK)(k:List UInt8):xQ b k=(b.flds.map zC.key).contains k:=by
 rw[gv];unfold xQ j7;rw[Bool.eq_iff_iff,List.find?_isSome,List.any_eq_true]
end Go.Proofs.YtkefajjcpcoajaaGreatDoor.Lx
