/-
  Short names.
-/
import Derived.Below
import Derived.Deep.RegionHeld
import Derived.Test.YtkefajjcpcoajaaGreatDoorProg
set_option linter.all false
namespace Go
theorem Shut.o{p:Prop}(h:Shut p):p:=h
end Go
namespace Go.RowKit
theorem Hid.o{p:Prop}(h:Hid p):p:=h
end Go.RowKit
namespace Go.Proofs.YtkefajjcpcoajaaGreatDoor
theorem jA{p:Prop}(h:p):Go.RowKit.Hid p:=h
abbrev jC:=Calls Tryz.prog
theorem jx5{A:Type _}:(∀(l:List A)(i:Nat)(a:A),l.toArray.setIfInBounds i a=(l.set i a).toArray)/\(∀(x:A)(l:List A)(a:A),(x::l).set 0 a=a::l)/\∀(x:A)(l:List A)(n:Nat)(a:A),(x::l).set (n+1) a=x::l.set n a:=⟨fun _ _ _=>by simp,fun _ _ _=>rfl,fun _ _ _ _=>rfl⟩
theorem jx1{A:Type _}(a:A):∃x,Go.RowKit.Hid (a=x):=⟨_,rfl⟩
theorem jx2{A:Type _}(a:A):∃x,Go.RowKit.Hid (x=a):=⟨_,rfl⟩
theorem jx3{A:Type _}(a:A):∃x,a=x:=⟨_,rfl⟩
theorem jx4{A:Type _}(a:A):∃x,x=a:=⟨_,rfl⟩
end Go.Proofs.YtkefajjcpcoajaaGreatDoor
