/-
  Texts of the proof, put together: SchAwk SchUp SchUpC.
-/
import Derived.Test.YtemdkkphmldgjaaGreatDoorPkA3
import Derived.Test.YtemdkkphmldgjaaGreatDoorPkA5
import Derived.Test.YtemdkkphmldgjaaGreatDoorPkA32
set_option maxRecDepth 100000
namespace Go.Proofs.YtemdkkphmldgjaaGreatDoor
open Go.RowKit Lx
namespace Lx
def aw8T : ByteArray := ⟨#[101, 108, 101, 99, 116, 105, 111, 110, 32, 34, 69, 34, 32, 123, 32, 115, 99, 97, 110, 32, 123, 32, 100, 111, 116, 115, 32, 50, 59, 32, 98, 108, 97, 110, 107, 32, 50, 48, 59, 32, 109, 97, 114, 107, 101, 100, 32, 53, 48, 59, 32, 125, 32, 115, 99, 97, 110, 110, 101, 114, 115, 32, 123, 32, 99, 111, 117, 110, 116, 32, 49, 59, 32, 98, 97, 116, 99, 104, 32, 52, 59, 32, 125, 32, 112, 114, 101, 99, 105, 110, 99, 116, 115, 32, 123, 32, 110, 97, 109, 101, 115, 32, 110, 111, 114, 116, 104, 44, 32, 115, 111, 117, 116, 104, 59, 32, 125, 32, 99, 111, 110, 116, 101, 115, 116, 32, 109, 97, 121, 111, 114, 32, 123, 32, 109, 101, 116, 104, 111, 100, 32, 105, 114, 118, 59, 32, 115, 101, 97, 116, 115, 32, 49, 59, 32, 114, 97, 110, 107, 115, 32, 51, 59, 32, 116, 105, 101, 115, 32, 108, 111, 116, 59, 32, 111, 118, 101, 114, 118, 111, 116, 101, 32, 115, 116, 111, 112, 59, 32, 115, 107, 105, 112, 32, 99, 108, 111, 115, 101, 59, 32, 99, 97, 110, 100, 105, 100, 97, 116, 101, 115, 32, 97, 110, 110, 44, 32, 98, 111, 98, 44, 32, 99, 101, 109, 59, 32, 125, 32, 115, 116, 121, 108, 101, 32, 97, 32, 123, 32, 112, 114, 101, 99, 105, 110, 99, 116, 115, 32, 110, 111, 114, 116, 104, 44, 32, 115, 111, 117, 116, 104, 59, 32, 99, 111, 110, 116, 101, 115, 116, 115, 32, 109, 97, 121, 111, 114, 59, 32, 125, 32, 97, 117, 100, 105, 116, 32, 123, 32, 114, 105, 115, 107, 32, 53, 47, 49, 48, 48, 59, 32, 115, 101, 101, 100, 32, 120, 59, 32, 125, 32, 112, 114, 105, 118, 97, 99, 121, 32, 123, 32, 99, 101, 108, 108, 32, 51, 59, 32, 125, 32, 125]⟩
def aw8S : Src := ⟨[69], [⟨[115, 99, 97, 110], [], [⟨[100, 111, 116, 115], [[50]], 1⟩, ⟨[98, 108, 97, 110, 107], [[50, 48]], 1⟩, ⟨[109, 97, 114, 107, 101, 100], [[53, 48]], 1⟩], 1⟩, ⟨[115, 99, 97, 110, 110, 101, 114, 115], [], [⟨[99, 111, 117, 110, 116], [[49]], 1⟩, ⟨[98, 97, 116, 99, 104], [[52]], 1⟩], 1⟩, ⟨[112, 114, 101, 99, 105, 110, 99, 116, 115], [], [⟨[110, 97, 109, 101, 115], [[110, 111, 114, 116, 104], [115, 111, 117, 116, 104]], 1⟩], 1⟩, ⟨[99, 111, 110, 116, 101, 115, 116], [109, 97, 121, 111, 114], [⟨[109, 101, 116, 104, 111, 100], [[105, 114, 118]], 1⟩, ⟨[115, 101, 97, 116, 115], [[49]], 1⟩, ⟨[114, 97, 110, 107, 115], [[51]], 1⟩, ⟨[116, 105, 101, 115], [[108, 111, 116]], 1⟩, ⟨[111, 118, 101, 114, 118, 111, 116, 101], [[115, 116, 111, 112]], 1⟩, ⟨[115, 107, 105, 112], [[99, 108, 111, 115, 101]], 1⟩, ⟨[99, 97, 110, 100, 105, 100, 97, 116, 101, 115], [[97, 110, 110], [98, 111, 98], [99, 101, 109]], 1⟩], 1⟩, ⟨[115, 116, 121, 108, 101], [97], [⟨[112, 114, 101, 99, 105, 110, 99, 116, 115], [[110, 111, 114, 116, 104], [115, 111, 117, 116, 104]], 1⟩, ⟨[99, 111, 110, 116, 101, 115, 116, 115], [[109, 97, 121, 111, 114]], 1⟩], 1⟩, ⟨[97, 117, 100, 105, 116], [], [⟨[114, 105, 115, 107], [[53, 47, 49, 48, 48]], 1⟩, ⟨[115, 101, 101, 100], [[120]], 1⟩], 1⟩, ⟨[112, 114, 105, 118, 97, 99, 121], [], [⟨[99, 101, 108, 108], [[51]], 1⟩], 1⟩]⟩
def aw8E : Elc where
 title := [69]
 dots := 2
 blank := 20
 marked := 50
 precs := [[110, 111, 114, 116, 104], [115, 111, 117, 116, 104]]
 conts := [⟨[109, 97, 121, 111, 114], [[97, 110, 110], [98, 111, 98], [99, 101, 109]], 1, 1, 3, 0, 3, 1, 1⟩]
 stys := [⟨[97], [0, 1], [0]⟩]
 scanners := 1
 batch := 4
 rneg := false
 rnum := [1]
 rden := [20]
 cell := 3
 seed := [120]
def aw8D : SSrc := ⟨[69], [⟨[115, 99, 97, 110], [], [⟨[100, 111, 116, 115], [[50]], 0⟩, ⟨[98, 108, 97, 110, 107], [[50, 48]], 0⟩, ⟨[109, 97, 114, 107, 101, 100], [[53, 48]], 0⟩], 0⟩, ⟨[115, 99, 97, 110, 110, 101, 114, 115], [], [⟨[99, 111, 117, 110, 116], [[49]], 0⟩, ⟨[98, 97, 116, 99, 104], [[52]], 0⟩], 0⟩, ⟨[112, 114, 101, 99, 105, 110, 99, 116, 115], [], [⟨[110, 97, 109, 101, 115], [[110, 111, 114, 116, 104], [115, 111, 117, 116, 104]], 0⟩], 0⟩, ⟨[99, 111, 110, 116, 101, 115, 116], [109, 97, 121, 111, 114], [⟨[109, 101, 116, 104, 111, 100], [[105, 114, 118]], 0⟩, ⟨[115, 101, 97, 116, 115], [[49]], 0⟩, ⟨[114, 97, 110, 107, 115], [[51]], 0⟩, ⟨[116, 105, 101, 115], [[108, 111, 116]], 0⟩, ⟨[111, 118, 101, 114, 118, 111, 116, 101], [[115, 116, 111, 112]], 0⟩, ⟨[115, 107, 105, 112], [[99, 108, 111, 115, 101]], 0⟩, ⟨[99, 97, 110, 100, 105, 100, 97, 116, 101, 115], [[97, 110, 110], [98, 111, 98], [99, 101, 109]], 0⟩], 0⟩, ⟨[115, 116, 121, 108, 101], [97], [⟨[112, 114, 101, 99, 105, 110, 99, 116, 115], [[110, 111, 114, 116, 104], [115, 111, 117, 116, 104]], 0⟩, ⟨[99, 111, 110, 116, 101, 115, 116, 115], [[109, 97, 121, 111, 114]], 0⟩], 0⟩, ⟨[97, 117, 100, 105, 116], [], [⟨[114, 105, 115, 107], [[49, 47, 50, 48]], 0⟩, ⟨[115, 101, 101, 100], [[120]], 0⟩], 0⟩, ⟨[112, 114, 105, 118, 97, 99, 121], [], [⟨[99, 101, 108, 108], [[51]], 0⟩], 0⟩]⟩
theorem aw8_lex : lexS (bys aw8T) 1 = .ok [⟨1, [101, 108, 101, 99, 116, 105, 111, 110], 1⟩, ⟨3, [69], 1⟩, ⟨4, [123], 1⟩, ⟨1, [115, 99, 97, 110], 1⟩, ⟨4, [123], 1⟩, ⟨1, [100, 111, 116, 115], 1⟩, ⟨2, [50], 1⟩, ⟨4, [59], 1⟩, ⟨1, [98, 108, 97, 110, 107], 1⟩, ⟨2, [50, 48], 1⟩, ⟨4, [59], 1⟩, ⟨1, [109, 97, 114, 107, 101, 100], 1⟩, ⟨2, [53, 48], 1⟩, ⟨4, [59], 1⟩, ⟨4, [125], 1⟩, ⟨1, [115, 99, 97, 110, 110, 101, 114, 115], 1⟩, ⟨4, [123], 1⟩, ⟨1, [99, 111, 117, 110, 116], 1⟩, ⟨2, [49], 1⟩, ⟨4, [59], 1⟩, ⟨1, [98, 97, 116, 99, 104], 1⟩, ⟨2, [52], 1⟩, ⟨4, [59], 1⟩, ⟨4, [125], 1⟩, ⟨1, [112, 114, 101, 99, 105, 110, 99, 116, 115], 1⟩, ⟨4, [123], 1⟩, ⟨1, [110, 97, 109, 101, 115], 1⟩, ⟨1, [110, 111, 114, 116, 104], 1⟩, ⟨4, [44], 1⟩, ⟨1, [115, 111, 117, 116, 104], 1⟩, ⟨4, [59], 1⟩, ⟨4, [125], 1⟩, ⟨1, [99, 111, 110, 116, 101, 115, 116], 1⟩, ⟨1, [109, 97, 121, 111, 114], 1⟩, ⟨4, [123], 1⟩, ⟨1, [109, 101, 116, 104, 111, 100], 1⟩, ⟨1, [105, 114, 118], 1⟩, ⟨4, [59], 1⟩, ⟨1, [115, 101, 97, 116, 115], 1⟩, ⟨2, [49], 1⟩, ⟨4, [59], 1⟩, ⟨1, [114, 97, 110, 107, 115], 1⟩, ⟨2, [51], 1⟩, ⟨4, [59], 1⟩, ⟨1, [116, 105, 101, 115], 1⟩, ⟨1, [108, 111, 116], 1⟩, ⟨4, [59], 1⟩, ⟨1, [111, 118, 101, 114, 118, 111, 116, 101], 1⟩, ⟨1, [115, 116, 111, 112], 1⟩, ⟨4, [59], 1⟩, ⟨1, [115, 107, 105, 112], 1⟩, ⟨1, [99, 108, 111, 115, 101], 1⟩, ⟨4, [59], 1⟩, ⟨1, [99, 97, 110, 100, 105, 100, 97, 116, 101, 115], 1⟩, ⟨1, [97, 110, 110], 1⟩, ⟨4, [44], 1⟩, ⟨1, [98, 111, 98], 1⟩, ⟨4, [44], 1⟩, ⟨1, [99, 101, 109], 1⟩, ⟨4, [59], 1⟩, ⟨4, [125], 1⟩, ⟨1, [115, 116, 121, 108, 101], 1⟩, ⟨1, [97], 1⟩, ⟨4, [123], 1⟩, ⟨1, [112, 114, 101, 99, 105, 110, 99, 116, 115], 1⟩, ⟨1, [110, 111, 114, 116, 104], 1⟩, ⟨4, [44], 1⟩, ⟨1, [115, 111, 117, 116, 104], 1⟩, ⟨4, [59], 1⟩, ⟨1, [99, 111, 110, 116, 101, 115, 116, 115], 1⟩, ⟨1, [109, 97, 121, 111, 114], 1⟩, ⟨4, [59], 1⟩, ⟨4, [125], 1⟩, ⟨1, [97, 117, 100, 105, 116], 1⟩, ⟨4, [123], 1⟩, ⟨1, [114, 105, 115, 107], 1⟩, ⟨2, [53], 1⟩, ⟨4, [47], 1⟩, ⟨2, [49, 48, 48], 1⟩, ⟨4, [59], 1⟩, ⟨1, [115, 101, 101, 100], 1⟩, ⟨1, [120], 1⟩, ⟨4, [59], 1⟩, ⟨4, [125], 1⟩, ⟨1, [112, 114, 105, 118, 97, 99, 121], 1⟩, ⟨4, [123], 1⟩, ⟨1, [99, 101, 108, 108], 1⟩, ⟨2, [51], 1⟩, ⟨4, [59], 1⟩, ⟨4, [125], 1⟩, ⟨4, [125], 1⟩] 1 := by
 have e : bys aw8T = ([101, 108, 101, 99, 116, 105, 111, 110] ++ 32 :: (quoP [69] ++ 32 :: 123 :: 32 :: ([115, 99, 97, 110] ++ 32 :: 123 :: 32 :: ([100, 111, 116, 115] ++ 32 :: ([50] ++ 59 :: 32 :: ([98, 108, 97, 110, 107] ++ 32 :: ([50, 48] ++ 59 :: 32 :: ([109, 97, 114, 107, 101, 100] ++ 32 :: ([53, 48] ++ 59 :: 32 :: 125 :: 32 :: ([115, 99, 97, 110, 110, 101, 114, 115] ++ 32 :: 123 :: 32 :: ([99, 111, 117, 110, 116] ++ 32 :: ([49] ++ 59 :: 32 :: ([98, 97, 116, 99, 104] ++ 32 :: ([52] ++ 59 :: 32 :: 125 :: 32 :: ([112, 114, 101, 99, 105, 110, 99, 116, 115] ++ 32 :: 123 :: 32 :: ([110, 97, 109, 101, 115] ++ 32 :: ([110, 111, 114, 116, 104] ++ 44 :: 32 :: ([115, 111, 117, 116, 104] ++ 59 :: 32 :: 125 :: 32 :: ([99, 111, 110, 116, 101, 115, 116] ++ 32 :: ([109, 97, 121, 111, 114] ++ 32 :: 123 :: 32 :: ([109, 101, 116, 104, 111, 100] ++ 32 :: ([105, 114, 118] ++ 59 :: 32 :: ([115, 101, 97, 116, 115] ++ 32 :: ([49] ++ 59 :: 32 :: ([114, 97, 110, 107, 115] ++ 32 :: ([51] ++ 59 :: 32 :: ([116, 105, 101, 115] ++ 32 :: ([108, 111, 116] ++ 59 :: 32 :: ([111, 118, 101, 114, 118, 111, 116, 101] ++ 32 :: ([115, 116, 111, 112] ++ 59 :: 32 :: ([115, 107, 105, 112] ++ 32 :: ([99, 108, 111, 115, 101] ++ 59 :: 32 :: ([99, 97, 110, 100, 105, 100, 97, 116, 101, 115] ++ 32 :: ([97, 110, 110] ++ 44 :: 32 :: ([98, 111, 98] ++ 44 :: 32 :: ([99, 101, 109] ++ 59 :: 32 :: 125 :: 32 :: ([115, 116, 121, 108, 101] ++ 32 :: ([97] ++ 32 :: 123 :: 32 :: ([112, 114, 101, 99, 105, 110, 99, 116, 115] ++ 32 :: ([110, 111, 114, 116, 104] ++ 44 :: 32 :: ([115, 111, 117, 116, 104] ++ 59 :: 32 :: ([99, 111, 110, 116, 101, 115, 116, 115] ++ 32 :: ([109, 97, 121, 111, 114] ++ 59 :: 32 :: 125 :: 32 :: ([97, 117, 100, 105, 116] ++ 32 :: 123 :: 32 :: ([114, 105, 115, 107] ++ 32 :: ([53] ++ 47 :: ([49, 48, 48] ++ 59 :: 32 :: ([115, 101, 101, 100] ++ 32 :: ([120] ++ 59 :: 32 :: 125 :: 32 :: ([112, 114, 105, 118, 97, 99, 121] ++ 32 :: 123 :: 32 :: ([99, 101, 108, 108] ++ 32 :: ([51] ++ 59 :: 32 :: 125 :: 32 :: 125 :: [])))))))))))))))))))))))))))))))))))))))))))))))))))) := by decide +kernel
 rw [e, lexS_word _ 1 (by decide) (by decide), lexS_sp, lexS_str _ 1 (by decide), lexS_sp, lexS_mark _ 1 (by decide), lexS_sp, lexS_word _ 1 (by decide) (by decide), lexS_sp, lexS_mark _ 1 (by decide), lexS_sp, lexS_word _ 1 (by decide) (by decide), lexS_sp, lexS_num _ 1 (by decide) (by decide), lexS_mark _ 1 (by decide), lexS_sp, lexS_word _ 1 (by decide) (by decide), lexS_sp, lexS_num _ 1 (by decide) (by decide), lexS_mark _ 1 (by decide), lexS_sp, lexS_word _ 1 (by decide) (by decide), lexS_sp, lexS_num _ 1 (by decide) (by decide), lexS_mark _ 1 (by decide), lexS_sp, lexS_mark _ 1 (by decide), lexS_sp, lexS_word _ 1 (by decide) (by decide), lexS_sp, lexS_mark _ 1 (by decide), lexS_sp, lexS_word _ 1 (by decide) (by decide), lexS_sp, lexS_num _ 1 (by decide) (by decide), lexS_mark _ 1 (by decide), lexS_sp, lexS_word _ 1 (by decide) (by decide), lexS_sp, lexS_num _ 1 (by decide) (by decide), lexS_mark _ 1 (by decide), lexS_sp, lexS_mark _ 1 (by decide), lexS_sp, lexS_word _ 1 (by decide) (by decide), lexS_sp, lexS_mark _ 1 (by decide), lexS_sp, lexS_word _ 1 (by decide) (by decide), lexS_sp, lexS_word _ 1 (by decide) (by decide), lexS_mark _ 1 (by decide), lexS_sp, lexS_word _ 1 (by decide) (by decide), lexS_mark _ 1 (by decide), lexS_sp, lexS_mark _ 1 (by decide), lexS_sp, lexS_word _ 1 (by decide) (by decide), lexS_sp, lexS_word _ 1 (by decide) (by decide), lexS_sp, lexS_mark _ 1 (by decide), lexS_sp, lexS_word _ 1 (by decide) (by decide), lexS_sp, lexS_word _ 1 (by decide) (by decide), lexS_mark _ 1 (by decide), lexS_sp, lexS_word _ 1 (by decide) (by decide), lexS_sp, lexS_num _ 1 (by decide) (by decide), lexS_mark _ 1 (by decide), lexS_sp, lexS_word _ 1 (by decide) (by decide), lexS_sp, lexS_num _ 1 (by decide) (by decide), lexS_mark _ 1 (by decide), lexS_sp, lexS_word _ 1 (by decide) (by decide), lexS_sp, lexS_word _ 1 (by decide) (by decide), lexS_mark _ 1 (by decide), lexS_sp, lexS_word _ 1 (by decide) (by decide), lexS_sp, lexS_word _ 1 (by decide) (by decide), lexS_mark _ 1 (by decide), lexS_sp, lexS_word _ 1 (by decide) (by decide), lexS_sp, lexS_word _ 1 (by decide) (by decide), lexS_mark _ 1 (by decide), lexS_sp, lexS_word _ 1 (by decide) (by decide), lexS_sp, lexS_word _ 1 (by decide) (by decide), lexS_mark _ 1 (by decide), lexS_sp, lexS_word _ 1 (by decide) (by decide), lexS_mark _ 1 (by decide), lexS_sp, lexS_word _ 1 (by decide) (by decide), lexS_mark _ 1 (by decide), lexS_sp, lexS_mark _ 1 (by decide), lexS_sp, lexS_word _ 1 (by decide) (by decide), lexS_sp, lexS_word _ 1 (by decide) (by decide), lexS_sp, lexS_mark _ 1 (by decide), lexS_sp, lexS_word _ 1 (by decide) (by decide), lexS_sp, lexS_word _ 1 (by decide) (by decide), lexS_mark _ 1 (by decide), lexS_sp, lexS_word _ 1 (by decide) (by decide), lexS_mark _ 1 (by decide), lexS_sp, lexS_word _ 1 (by decide) (by decide), lexS_sp, lexS_word _ 1 (by decide) (by decide), lexS_mark _ 1 (by decide), lexS_sp, lexS_mark _ 1 (by decide), lexS_sp, lexS_word _ 1 (by decide) (by decide), lexS_sp, lexS_mark _ 1 (by decide), lexS_sp, lexS_word _ 1 (by decide) (by decide), lexS_sp, lexS_num _ 1 (by decide) (by decide), lexS_mark _ 1 (by decide), lexS_num _ 1 (by decide) (by decide), lexS_mark _ 1 (by decide), lexS_sp, lexS_word _ 1 (by decide) (by decide), lexS_sp, lexS_word _ 1 (by decide) (by decide), lexS_mark _ 1 (by decide), lexS_sp, lexS_mark _ 1 (by decide), lexS_sp, lexS_word _ 1 (by decide) (by decide), lexS_sp, lexS_mark _ 1 (by decide), lexS_sp, lexS_word _ 1 (by decide) (by decide), lexS_sp, lexS_num _ 1 (by decide) (by decide), lexS_mark _ 1 (by decide), lexS_sp, lexS_mark _ 1 (by decide), lexS_sp, lexS_mark _ 1 (by decide), lexS_nil]
 rfl
theorem aw8_parse : parseS aw8T = some (.ok aw8S) := by
 unfold parseS
 rw [if_neg (by decide +kernel)]
 unfold parseL
 rw [aw8_lex]
 rfl
theorem aw8_comp : compS (toSS aw8S) = ((0, 0), aw8E) := by kernel_rfl
theorem it_1 : Lib.itoa 1 = [49] := by rw [Lib.itoa, if_neg (by decide)]; exact Lib.decDigits_one (by decide)
theorem it_2 : Lib.itoa 2 = [50] := by rw [Lib.itoa, if_neg (by decide)]; exact Lib.decDigits_one (by decide)
theorem it_3 : Lib.itoa 3 = [51] := by rw [Lib.itoa, if_neg (by decide)]; exact Lib.decDigits_one (by decide)
theorem it_4 : Lib.itoa 4 = [52] := by rw [Lib.itoa, if_neg (by decide)]; exact Lib.decDigits_one (by decide)
theorem it_20 : Lib.itoa 20 = [50, 48] := by rw [Lib.itoa, if_neg (by decide)]; exact Lib.decDigits_two (by decide) (by decide)
theorem it_50 : Lib.itoa 50 = [53, 48] := by rw [Lib.itoa, if_neg (by decide)]; exact Lib.decDigits_two (by decide) (by decide)
theorem aw8_risk : riskT aw8E = [49, 47, 50, 48] := by
 have h : Q.RatMath.nf ⟨aw8E.rneg, Q.NatMath.val aw8E.rnum, Q.NatMath.val aw8E.rden⟩ = ⟨false, 1, 20⟩ := by kernel_rfl
 have h1 : Lib.decDigits 1 = [49] := Lib.decDigits_one (by decide)
 have h2 : Lib.decDigits 20 = [50, 48] := Lib.decDigits_two (by decide) (by decide)
 unfold riskT
 rw [h]
 unfold Q.tx
 rw [if_neg (by decide), if_neg (by decide)]
 unfold Q.dg
 show bys (⟨(Lib.decDigits 1).toArray⟩ ++ (⟨#[47]⟩ ++ ⟨(Lib.decDigits 20).toArray⟩)) = _
 rw [h1, h2]
 rfl
theorem aw8_desc : descS aw8E (riskT aw8E) = aw8D := by
 rw [aw8_risk]
 unfold descS dHead dTail descC descT descCF fN
 simp only [aw8E, List.map_cons, List.map_nil, it_1, it_2, it_3, it_4, it_20, it_50]
 kernel_rfl
theorem aw8_again : compS aw8D = ((0, 0), aw8E) := by kernel_rfl
theorem aw8_src : srcB aw8E = true := by
 unfold srcB
 rw [aw8_desc, aw8_again]
 kernel_rfl
theorem aw8_sty : styOf aw8E.stys 1 = 0 := by kernel_rfl
end Lx
theorem aw8_ok {s : ESl} (h : RatIn aw8E s) : SrcOk aw8E s where
 nums := by unfold I64; decide
 precs := by decide
 sm := ⟨by decide, by decide⟩
 cst := fun x hx => by
  have : x = ⟨[109, 97, 121, 111, 114], [[97, 110, 110], [98, 111, 98], [99, 101, 109]], 1, 1, 3, 0, 3, 1, 1⟩ := by simpa [aw8E] using hx
  subst this
  unfold I64
  decide
 sty := fun x hx => by
  have : x = ⟨[97], [0, 1], [0]⟩ := by simpa [aw8E] using hx
  subst this
  decide
 rat := h
end Go.Proofs.YtemdkkphmldgjaaGreatDoor
namespace Go.Proofs.YtemdkkphmldgjaaGreatDoor.Lx
def Fld.up (n : Nat) (f : Fld) : Fld := { f with line := f.line + n }
def Blc.up (n : Nat) (b : Blc) : Blc := { b with flds := b.flds.map (Fld.up n), line := b.line + n }
def Src.up (n : Nat) (s : Src) : Src := { s with blks := s.blks.map (Blc.up n) }
def relP {α : Type} (u : α -> α) (n : Nat) : PR α -> PR α -> Prop
  | .ok a r, .ok b s => b = u a /\ s = r.map (Tok.up n)
  | .bad _, .bad _ => True
  | _, _ => False
theorem relP_bind {α β : Type} {u : α -> α} {v : β -> β} {n : Nat} {p q : PR α} {f g : α -> List Tok -> PR β} (h : relP u n p q) (hf : ∀ a r, p = .ok a r -> relP v n (f a r) (g (u a) (r.map (Tok.up n)))) : relP v n (p.bind f) (q.bind g) := by
 cases p with
 | ok a r =>
  cases q with
  | ok b s =>
   obtain ⟨rfl, rfl⟩ := h
   exact hf a r rfl
  | bad m => exact h.elim
 | bad k =>
  cases q with
  | ok b s => exact h.elim
  | bad m => trivial
theorem atMark_up (c : UInt8) (n : Nat) (l : List Tok) : atMark c (l.map (Tok.up n)) = atMark c l := by cases l <;> rfl
theorem atKind_up (k : Nat) (n : Nat) (l : List Tok) : atKind k (l.map (Tok.up n)) = atKind k l := by cases l <;> rfl
theorem takeK_up (k n : Nat) (l : List Tok) : relP id n (takeK k l) (takeK k (l.map (Tok.up n))) := by
 cases l with
 | nil => trivial
 | cons t r =>
  rw [List.map_cons]
  unfold takeK
  show relP id n (if t.kind = k then _ else _) (if t.kind = k then _ else _)
  by_cases h : t.kind = k
  . rw [if_pos h, if_pos h]; exact ⟨rfl, rfl⟩
  . rw [if_neg h, if_neg h]; trivial
theorem takeM_up (c : UInt8) (n : Nat) (l : List Tok) : relP id n (takeM c l) (takeM c (l.map (Tok.up n))) := by
 cases l with
 | nil => trivial
 | cons t r =>
  rw [List.map_cons]
  unfold takeM
  show relP id n (if isMark c t = true then _ else _) (if isMark c t = true then _ else _)
  by_cases h : isMark c t = true
  . rw [if_pos h, if_pos h]; exact ⟨rfl, rfl⟩
  . rw [if_neg h, if_neg h]; trivial
theorem takeE_up (n : Nat) (l : List Tok) : relP id n (takeE l) (takeE (l.map (Tok.up n))) := by
 cases l with
 | nil => trivial
 | cons t r =>
  rw [List.map_cons]
  unfold takeE
  show relP id n (if t.kind = 1 /\ t.text = elec then _ else _) (if t.kind = 1 /\ t.text = elec then _ else _)
  by_cases h : t.kind = 1 /\ t.text = elec
  . rw [if_pos h, if_pos h]; exact ⟨rfl, rfl⟩
  . rw [if_neg h, if_neg h]; trivial
theorem valueP_up (n : Nat) (l : List Tok) : relP id n (valueP l) (valueP (l.map (Tok.up n))) := by
 unfold valueP
 rw [atKind_up, atKind_up]
 by_cases h1 : atKind 1 l = true
 . rw [if_pos h1, if_pos h1]; exact takeK_up 1 n l
 . rw [if_neg h1, if_neg h1]
   by_cases h3 : atKind 3 l = true
   . rw [if_pos h3, if_pos h3]; exact takeK_up 3 n l
   . rw [if_neg h3, if_neg h3]
     refine relP_bind (takeK_up 2 n l) fun a r _ => ?_
     rw [atMark_up]
     by_cases h : atMark 47 r = true
     . rw [if_pos h, if_pos h, <- List.map_drop]
       exact relP_bind (takeK_up 2 n _) fun b r2 _ => ⟨rfl, rfl⟩
     . rw [if_neg h, if_neg h]
       exact ⟨rfl, rfl⟩
theorem moreP_up (n : Nat) : ∀ (k : Nat) (l : List Tok), relP id n (moreP k l) (moreP k (l.map (Tok.up n)))
  | 0, l => ⟨rfl, rfl⟩
  | k + 1, l => by
   unfold moreP
   rw [atMark_up]
   by_cases h : atMark 44 l = true
   . rw [if_pos h, if_pos h, <- List.map_drop]
     exact relP_bind (valueP_up n _) fun v r _ => relP_bind (moreP_up n k r) fun vs r2 _ => ⟨rfl, rfl⟩
   . rw [if_neg h, if_neg h]
     exact ⟨rfl, rfl⟩
theorem takeK_ne {k : Nat} {l : List Tok} {a : List UInt8} {r : List Tok} (h : takeK k l = .ok a r) : ∃ t, l = t :: r /\ a = t.text := by
 cases l with
 | nil => cases h
 | cons t q =>
  replace h : (if t.kind = k then PR.ok t.text q else PR.bad t.line) = .ok a r := h
  by_cases e : t.kind = k
  . rw [if_pos e] at h
    injection h with h1 h2
    subst h1 h2
    exact ⟨t, rfl, rfl⟩
  . rw [if_neg e] at h; cases h
theorem fieldP_up (n : Nat) (l : List Tok) : relP (Fld.up n) n (fieldP l) (fieldP (l.map (Tok.up n))) := by
 unfold fieldP
 refine relP_bind (takeK_up 1 n l) fun key r hk => ?_
 obtain ⟨t, rfl, rfl⟩ := takeK_ne hk
 refine relP_bind (valueP_up n r) fun v r2 _ => ?_
 rw [List.length_map]
 refine relP_bind (moreP_up n _ r2) fun vs r3 _ => ?_
 exact relP_bind (takeM_up 59 n r3) fun _ r4 _ => ⟨rfl, rfl⟩
theorem fieldsP_up (n : Nat) : ∀ (k : Nat) (l : List Tok), relP (List.map (Fld.up n)) n (fieldsP k l) (fieldsP k (l.map (Tok.up n)))
  | 0, l => ⟨rfl, rfl⟩
  | k + 1, l => by
   unfold fieldsP
   rw [atMark_up]
   by_cases h : atMark 125 l = true
   . rw [if_pos h, if_pos h]; exact ⟨rfl, rfl⟩
   . rw [if_neg h, if_neg h]
     exact relP_bind (fieldP_up n l) fun f r _ => relP_bind (fieldsP_up n k r) fun fs r2 _ => ⟨rfl, rfl⟩
theorem nameR_up (n : Nat) (l : List Tok) : relP id n (nameR l) (nameR (l.map (Tok.up n))) := by
 unfold nameR
 rw [atKind_up]
 by_cases h : atKind 1 l = true
 . rw [if_pos h, if_pos h]; exact takeK_up 1 n l
 . rw [if_neg h, if_neg h]; exact ⟨rfl, rfl⟩
theorem blockP_up (n : Nat) (l : List Tok) : relP (Blc.up n) n (blockP l) (blockP (l.map (Tok.up n))) := by
 unfold blockP
 refine relP_bind (takeK_up 1 n l) fun kind r hk => ?_
 obtain ⟨t, rfl, rfl⟩ := takeK_ne hk
 refine relP_bind (nameR_up n r) fun name r2 _ => ?_
 refine relP_bind (takeM_up 123 n r2) fun _ r3 _ => ?_
 rw [List.length_map]
 refine relP_bind (fieldsP_up n _ r3) fun fs r4 _ => ?_
 exact relP_bind (takeM_up 125 n r4) fun _ r5 _ => ⟨rfl, rfl⟩
theorem blocksP_up (n : Nat) : ∀ (k : Nat) (l : List Tok), relP (List.map (Blc.up n)) n (blocksP k l) (blocksP k (l.map (Tok.up n)))
  | 0, l => ⟨rfl, rfl⟩
  | k + 1, l => by
   unfold blocksP
   rw [atMark_up]
   by_cases h : atMark 125 l = true
   . rw [if_pos h, if_pos h]; exact ⟨rfl, rfl⟩
   . rw [if_neg h, if_neg h]
     exact relP_bind (blockP_up n l) fun b r _ => relP_bind (blocksP_up n k r) fun bs r2 _ => ⟨rfl, rfl⟩
theorem sourceP_up (n : Nat) (l : List Tok) : relP (Src.up n) n (sourceP l) (sourceP (l.map (Tok.up n))) := by
 unfold sourceP
 refine relP_bind (takeE_up n l) fun _ r _ => ?_
 refine relP_bind (takeK_up 3 n r) fun title r2 _ => ?_
 refine relP_bind (takeM_up 123 n r2) fun _ r3 _ => ?_
 rw [List.length_map]
 refine relP_bind (blocksP_up n _ r3) fun bs r4 _ => ?_
 refine relP_bind (takeM_up 125 n r4) fun _ r5 _ => ?_
 exact relP_bind (takeK_up 5 n r5) fun _ r6 _ => ⟨rfl, rfl⟩
def gapL (n : Nat) : List UInt8 := List.replicate n 10
def relA (n : Nat) : Ans -> Ans -> Prop
  | .ok s, .ok t => t = s.up n
  | .err _, .err _ => True
  | _, _ => False
theorem nlN_gap (n : Nat) : nlN (gapL n) = n := by
 unfold nlN gapL
 induction n with
 | zero => rfl
 | succ k ih => rw [List.replicate_succ, List.countP_cons_of_pos (by decide), ih]
theorem parseL_gap (n : Nat) (l : List UInt8) : relA n (parseL l) (parseL (gapL n ++ l)) := by
 unfold parseL
 rw [lexS_blanks l (gapL n) 1 (by rw [List.all_eq_true]; intro x hx; unfold gapL at hx; rw [(List.mem_replicate.1 hx).2]; decide), nlN_gap, lexS_up n l.length l 1 (Nat.le_refl _)]
 cases lexS l 1 with
 | err k => trivial
 | ok ts m =>
  have h := sourceP_up n (ts ++ [⟨5, [], m⟩])
  rw [List.map_append, List.map_cons, List.map_nil] at h
  have e : Tok.up n ⟨5, [], m⟩ = ⟨5, [], m + n⟩ := rfl
  rw [e] at h
  simp only [Res.up]
  generalize sourceP (ts ++ [⟨5, [], m⟩]) = p at h |-
  generalize sourceP (ts.map (Tok.up n) ++ [⟨5, [], m + n⟩]) = q at h |-
  cases p with
  | ok a r =>
   cases q with
   | ok b s => exact h.1
   | bad k => exact h.elim
  | bad k =>
   cases q with
   | ok b s => exact h.elim
   | bad k => trivial
structure GdF (B : Nat) (f : Fld) : Prop where
 ln : 1 <= f.line
 top : f.line <= B
 vals : ∀ v ∈ f.vals, v.length <= B
def wF (f : Fld) : Nat := f.vals.length + 1
def wFs : List Fld -> Nat
  | [] => 0
  | f :: r => wF f + wFs r
def wB (b : Blc) : Nat := wFs b.flds + 1
def wBs : List Blc -> Nat
  | [] => 0
  | b :: r => wB b + wBs r
structure GdB (B : Nat) (b : Blc) : Prop where
 ln : 1 <= b.line
 top : b.line <= B
 flds : ∀ f ∈ b.flds, GdF B f
def GdT (B : Nat) (l : List Tok) : Prop := ∀ t ∈ l, 1 <= t.line /\ 2 * t.text.length + 1 <= B /\ t.line <= B
theorem GdT.tail {B : Nat} {t : Tok} {l : List Tok} (h : GdT B (t :: l)) : GdT B l := fun x hx => h x (List.mem_cons_of_mem _ hx)
theorem GdT.drop {B : Nat} {l : List Tok} (h : GdT B l) (k : Nat) : GdT B (l.drop k) := fun x hx => h x (List.mem_of_mem_drop hx)
theorem bind_ok {α β : Type} {p : PR α} {f : α -> List Tok -> PR β} {b : β} {s : List Tok} (h : p.bind f = .ok b s) : ∃ a r, p = .ok a r /\ f a r = .ok b s := by
 cases p with
 | ok a r => exact ⟨a, r, rfl, h⟩
 | bad k => cases h
theorem takeM_ok {c : UInt8} {l r : List Tok} {u : Unit} (h : takeM c l = .ok u r) : ∃ t, l = t :: r := by
 cases l with
 | nil => cases h
 | cons t q =>
  replace h : (if isMark c t = true then PR.ok () q else PR.bad t.line) = .ok u r := h
  by_cases e : isMark c t = true
  . rw [if_pos e] at h
    injection h with _ h2
    exact ⟨t, by rw [h2]⟩
  . rw [if_neg e] at h; cases h
theorem valueP_gd {B : Nat} {l : List Tok} {v : List UInt8} {r : List Tok} (h : valueP l = .ok v r) (hg : GdT B l) : v.length <= B /\ GdT B r /\ r.length + 1 <= l.length := by
 unfold valueP at h
 by_cases h1 : atKind 1 l = true
 . rw [if_pos h1] at h
   obtain ⟨t, rfl, rfl⟩ := takeK_ne h
   exact ⟨by have := (hg t List.mem_cons_self).2.1; omega, hg.tail, Nat.le_refl _⟩
 . rw [if_neg h1] at h
   by_cases h3 : atKind 3 l = true
   . rw [if_pos h3] at h
     obtain ⟨t, rfl, rfl⟩ := takeK_ne h
     exact ⟨by have := (hg t List.mem_cons_self).2.1; omega, hg.tail, Nat.le_refl _⟩
   . rw [if_neg h3] at h
     obtain ⟨a, q, hq, h⟩ := bind_ok h
     obtain ⟨t, rfl, rfl⟩ := takeK_ne hq
     have ht := (hg t List.mem_cons_self).2
     by_cases h4 : atMark 47 q = true
     . rw [if_pos h4] at h
       obtain ⟨b, q2, hq2, h⟩ := bind_ok h
       obtain ⟨t2, e2, rfl⟩ := takeK_ne hq2
       injection h with h5 h6
       subst h5 h6
       have hd : GdT B (q.drop 1) := hg.tail.drop 1
       rw [e2] at hd
       have ht2 := (hd t2 List.mem_cons_self).2
       have hl : (q.drop 1).length = q2.length + 1 := by rw [e2]; rfl
       rw [List.length_drop] at hl
       refine ⟨by rw [List.length_append, List.length_cons]; omega, hd.tail, by rw [List.length_cons]; omega⟩
     . rw [if_neg h4] at h
       injection h with h5 h6
       subst h5 h6
       exact ⟨by omega, hg.tail, Nat.le_refl _⟩
theorem moreP_gd {B : Nat} : ∀ (k : Nat) {l : List Tok} {vs : List (List UInt8)} {r : List Tok}, moreP k l = .ok vs r -> GdT B l -> (∀ v ∈ vs, v.length <= B) /\ GdT B r /\ r.length + vs.length <= l.length
  | 0, l, vs, r, h, hg => by
   unfold moreP at h
   injection h with h1 h2
   subst h1 h2
   exact ⟨fun v hv => (by cases hv), hg, by simp⟩
  | k + 1, l, vs, r, h, hg => by
   unfold moreP at h
   by_cases h1 : atMark 44 l = true
   . rw [if_pos h1] at h
     obtain ⟨v, q, hq, h⟩ := bind_ok h
     obtain ⟨ws, q2, hq2, h⟩ := bind_ok h
     injection h with h2 h3
     subst h2 h3
     obtain ⟨a1, a2, a3⟩ := valueP_gd hq (hg.drop 1)
     obtain ⟨b1, b2, b3⟩ := moreP_gd k hq2 a2
     rw [List.length_drop] at a3
     refine ⟨fun x hx => ?_, b2, by rw [List.length_cons]; omega⟩
     rcases List.mem_cons.1 hx with rfl | hx
     . exact a1
     . exact b1 x hx
   . rw [if_neg h1] at h
     injection h with h2 h3
     subst h2 h3
     exact ⟨fun v hv => (by cases hv), hg, by simp⟩
theorem fieldP_gd {B : Nat} {l : List Tok} {f : Fld} {r : List Tok} (h : fieldP l = .ok f r) (hg : GdT B l) : GdF B f /\ GdT B r /\ r.length + wF f <= l.length := by
 unfold fieldP at h
 obtain ⟨key, q, hq, hz1⟩ := bind_ok h
 obtain ⟨v, q2, hq2, hz2⟩ := bind_ok hz1
 obtain ⟨vs, q3, hq3, hz3⟩ := bind_ok hz2
 obtain ⟨u, q4, hq4, hz4⟩ := bind_ok hz3
 obtain ⟨t, rfl, rfl⟩ := takeK_ne hq
 obtain ⟨t4, rfl⟩ := takeM_ok hq4
 injection hz4 with h2 h3
 subst h2 h3
 obtain ⟨a1, a2, a3⟩ := valueP_gd hq2 hg.tail
 obtain ⟨b1, b2, b3⟩ := moreP_gd _ hq3 a2
 refine ⟨⟨(hg t List.mem_cons_self).1, (hg t List.mem_cons_self).2.2, fun x hx => ?_⟩, b2.tail, ?_⟩
 . rcases List.mem_cons.1 hx with rfl | hx
   . exact a1
   . exact b1 x hx
 . unfold wF
   rw [List.length_cons] at b3 |-
   rw [List.length_cons]
   omega
theorem fieldsP_gd {B : Nat} : ∀ (k : Nat) {l : List Tok} {fs : List Fld} {r : List Tok}, fieldsP k l = .ok fs r -> GdT B l -> (∀ f ∈ fs, GdF B f) /\ GdT B r /\ r.length + wFs fs <= l.length
  | 0, l, fs, r, h, hg => by
   unfold fieldsP at h
   injection h with h1 h2
   subst h1 h2
   exact ⟨fun v hv => (by cases hv), hg, Nat.le_refl _⟩
  | k + 1, l, fs, r, h, hg => by
   unfold fieldsP at h
   by_cases h1 : atMark 125 l = true
   . rw [if_pos h1] at h
     injection h with h2 h3
     subst h2 h3
     exact ⟨fun v hv => (by cases hv), hg, Nat.le_refl _⟩
   . rw [if_neg h1] at h
     obtain ⟨f, q, hq, h⟩ := bind_ok h
     obtain ⟨gs, q2, hq2, h⟩ := bind_ok h
     injection h with h2 h3
     subst h2 h3
     obtain ⟨a1, a2, a3⟩ := fieldP_gd hq hg
     obtain ⟨b1, b2, b3⟩ := fieldsP_gd k hq2 a2
     refine ⟨fun x hx => ?_, b2, by rw [wFs]; omega⟩
     rcases List.mem_cons.1 hx with rfl | hx
     . exact a1
     . exact b1 x hx
theorem nameR_gd {B : Nat} {l : List Tok} {v : List UInt8} {r : List Tok} (h : nameR l = .ok v r) (hg : GdT B l) : GdT B r /\ r.length <= l.length := by
 unfold nameR at h
 by_cases h1 : atKind 1 l = true
 . rw [if_pos h1] at h
   obtain ⟨t, rfl, rfl⟩ := takeK_ne h
   exact ⟨hg.tail, by simp⟩
 . rw [if_neg h1] at h
   injection h with h2 h3
   subst h2 h3
   exact ⟨hg, Nat.le_refl _⟩
theorem blockP_gd {B : Nat} {l : List Tok} {b : Blc} {r : List Tok} (h : blockP l = .ok b r) (hg : GdT B l) : GdB B b /\ GdT B r /\ r.length + wB b <= l.length := by
 unfold blockP at h
 obtain ⟨key, q, hq, hz5⟩ := bind_ok h
 obtain ⟨v, q2, hq2, hz6⟩ := bind_ok hz5
 obtain ⟨u, q3, hq3, hz7⟩ := bind_ok hz6
 obtain ⟨fs, q4, hq4, hz8⟩ := bind_ok hz7
 obtain ⟨u2, q5, hq5, hz9⟩ := bind_ok hz8
 obtain ⟨t, rfl, rfl⟩ := takeK_ne hq
 obtain ⟨t3, rfl⟩ := takeM_ok hq3
 obtain ⟨t5, rfl⟩ := takeM_ok hq5
 injection hz9 with h2 h3
 subst h2 h3
 obtain ⟨a1, a2⟩ := nameR_gd hq2 hg.tail
 obtain ⟨b1, b2, b3⟩ := fieldsP_gd _ hq4 a1.tail
 refine ⟨⟨(hg t List.mem_cons_self).1, (hg t List.mem_cons_self).2.2, b1⟩, b2.tail, ?_⟩
 unfold wB
 rw [List.length_cons] at b3 a2 |-
 show _ + (wFs fs + 1) <= _
 omega
theorem blocksP_gd {B : Nat} : ∀ (k : Nat) {l : List Tok} {bs : List Blc} {r : List Tok}, blocksP k l = .ok bs r -> GdT B l -> (∀ b ∈ bs, GdB B b) /\ GdT B r /\ r.length + wBs bs <= l.length
  | 0, l, fs, r, h, hg => by
   unfold blocksP at h
   injection h with h1 h2
   subst h1 h2
   exact ⟨fun v hv => (by cases hv), hg, Nat.le_refl _⟩
  | k + 1, l, fs, r, h, hg => by
   unfold blocksP at h
   by_cases h1 : atMark 125 l = true
   . rw [if_pos h1] at h
     injection h with h2 h3
     subst h2 h3
     exact ⟨fun v hv => (by cases hv), hg, Nat.le_refl _⟩
   . rw [if_neg h1] at h
     obtain ⟨f, q, hq, h⟩ := bind_ok h
     obtain ⟨gs, q2, hq2, h⟩ := bind_ok h
     injection h with h2 h3
     subst h2 h3
     obtain ⟨a1, a2, a3⟩ := blockP_gd hq hg
     obtain ⟨b1, b2, b3⟩ := blocksP_gd k hq2 a2
     refine ⟨fun x hx => ?_, b2, by rw [wBs]; omega⟩
     rcases List.mem_cons.1 hx with rfl | hx
     . exact a1
     . exact b1 x hx
theorem sourceP_gd {B : Nat} {l : List Tok} {s : Src} {r : List Tok} (h : sourceP l = .ok s r) (hg : GdT B l) : (∀ b ∈ s.blks, GdB B b) /\ wBs s.blks <= l.length := by
 unfold sourceP at h
 obtain ⟨u0, q, hq, hz10⟩ := bind_ok h
 obtain ⟨title, q2, hq2, hz11⟩ := bind_ok hz10
 obtain ⟨u, q3, hq3, hz12⟩ := bind_ok hz11
 obtain ⟨bs, q4, hq4, hz13⟩ := bind_ok hz12
 obtain ⟨u2, q5, hq5, hz14⟩ := bind_ok hz13
 obtain ⟨u3, q6, hq6, hz15⟩ := bind_ok hz14
 have hE : ∃ t, l = t :: q := by
  cases l with
  | nil => cases hq
  | cons t r =>
   replace hq : (if t.kind = 1 /\ t.text = elec then PR.ok () r else PR.bad t.line) = .ok u0 q := hq
   by_cases e : t.kind = 1 /\ t.text = elec
   . rw [if_pos e] at hq
     injection hq with _ h2
     exact ⟨t, by rw [h2]⟩
   . rw [if_neg e] at hq; cases hq
 obtain ⟨t, rfl⟩ := hE
 obtain ⟨t2, rfl, rfl⟩ := takeK_ne hq2
 obtain ⟨t3, rfl⟩ := takeM_ok hq3
 injection hz15 with h2 h3
 subst h2 h3
 obtain ⟨b1, b2, b3⟩ := blocksP_gd _ hq4 hg.tail.tail.tail
 refine ⟨b1, ?_⟩
 rw [List.length_cons, List.length_cons, List.length_cons]
 show wBs bs <= _
 omega
def SFld.up (n : Int) (f : SFld) : SFld := { f with line := f.line + n }
def SBlc.up (n : Int) (b : SBlc) : SBlc := { b with flds := b.flds.map (SFld.up n), line := b.line + n }
def SSrc.up (n : Int) (s : SSrc) : SSrc := { s with blks := s.blks.map (SBlc.up n) }
def shiftF (n : Int) (x : Nat × Int) : Nat × Int := (x.1, if 0 < x.2 then x.2 + n else x.2)
def PosF (f : SFld) : Prop := 1 <= f.line
def PosB (b : SBlc) : Prop := 1 <= b.line /\ ∀ f ∈ b.flds, PosF f
theorem shiftF_pos {n : Int} {e : Nat} {l : Int} (h : 1 <= l) : shiftF n (e, l) = (e, l + n) := by
 show (e, if 0 < l then l + n else l) = _
 rw [if_pos (by omega)]
theorem shiftF_1 (n : Int) (x : Nat × Int) : (shiftF n x).1 = x.1 := rfl
theorem ofKind_up (k : List UInt8) (n : Int) (bs : List SBlc) : ofKind k (bs.map (SBlc.up n)) = (ofKind k bs).map (SBlc.up n) := by
 unfold ofKind
 rw [List.filter_map]
 rfl
theorem namesOf_up (n : Int) (bs : List SBlc) : namesOf (bs.map (SBlc.up n)) = namesOf bs := by
 unfold namesOf
 rw [List.map_map]
 rfl
theorem headE_up (n : Int) (e : List SBlc) (b : SBlc) : headE (e.map (SBlc.up n)) (b.up n) = headE e b := by
 unfold headE
 have h1 : (SBlc.up n b).kind = b.kind := rfl
 have h2 : (SBlc.up n b).name = b.name := rfl
 rw [h1, h2, ofKind_up, namesOf_up, List.length_map]
theorem fieldE_up (n : Int) (kind : List UInt8) (e : List SFld) (f : SFld) : fieldE kind (e.map (SFld.up n)) (f.up n) = fieldE kind e f := by
 unfold fieldE
 have h1 : (SFld.up n f).key = f.key := rfl
 have h2 : (SFld.up n f).vals = f.vals := rfl
 rw [h1, h2, List.any_map]
 rfl
theorem fldsGo_up (n : Int) (kind : List UInt8) : ∀ (fs e : List SFld), (∀ f ∈ fs, PosF f) -> fldsGo kind (e.map (SFld.up n)) (fs.map (SFld.up n)) = shiftF n (fldsGo kind e fs)
  | [], e, _ => rfl
  | f :: r, e, hp => by
   rw [List.map_cons, fldsGo, fldsGo, fieldE_up]
   by_cases h : fieldE kind e f ≠ 0
   . rw [if_pos h, if_pos h, shiftF_pos (hp f List.mem_cons_self)]
     rfl
   . rw [if_neg h, if_neg h]
     have := fldsGo_up n kind r (e ++ [f]) (fun x hx => hp x (List.mem_cons_of_mem _ hx))
     rw [List.map_append, List.map_cons, List.map_nil] at this
     exact this
theorem fieldOf_up (n : Int) (b : SBlc) (k : List UInt8) : fieldOf (b.up n) k = (fieldOf b k).map (SFld.up n) := by
 unfold fieldOf
 show (b.flds.map (SFld.up n)).find? _ = _
 rw [List.find?_map]
 rfl
theorem hasF_up (n : Int) (b : SBlc) (k : List UInt8) : hasF (b.up n) k = hasF b k := by
 unfold hasF
 rw [fieldOf_up]
 cases fieldOf b k <;> rfl
theorem valuesOf_up (n : Int) (b : SBlc) (k : List UInt8) : valuesOf (b.up n) k = valuesOf b k := by
 unfold valuesOf
 rw [fieldOf_up]
 cases fieldOf b k <;> rfl
theorem valueOf_up (n : Int) (b : SBlc) (k : List UInt8) : valueOf (b.up n) k = valueOf b k := by unfold valueOf; rw [valuesOf_up]
theorem numberOf_up (n : Int) (b : SBlc) (k : List UInt8) : numberOf (b.up n) k = numberOf b k := by unfold numberOf; rw [valueOf_up]
theorem codeB_up (n : Int) (b : SBlc) (k : List UInt8) : codeB (b.up n) k = codeB b k := by unfold codeB; rw [valueOf_up]
theorem lineF_up (n : Int) {b : SBlc} {k : List UInt8} (hp : PosB b) (h : hasF b k = true) : lineF (b.up n) k = lineF b k + n /\ 1 <= lineF b k := by
 unfold hasF at h
 unfold lineF
 rw [fieldOf_up]
 cases hf : fieldOf b k with
 | none => rw [hf] at h; cases h
 | some f => exact ⟨rfl, hp.2 f (List.mem_of_find?_eq_some hf)⟩
theorem lacksF_up (n : Int) (b : SBlc) : lacksF (b.up n) = lacksF b := by
 unfold lacksF
 congr 1
 funext r
 rw [codeB_up, hasF_up]
 rfl
theorem togE_up (n : Int) {b : SBlc} (hp : PosB b) : togE (b.up n) = shiftF n (togE b) := by
 unfold togE
 have h1 : (SBlc.up n b).kind = b.kind := rfl
 have h2 : (SBlc.up n b).line = b.line + n := rfl
 rw [h1, h2, hasF_up, codeB_up, numberOf_up, numberOf_up, numberOf_up]
 by_cases hc : b.kind = kContest
 . rw [if_pos hc, if_pos hc]
   by_cases hd : (hasF b wDigits && !decide (codeB b wMethod = 2)) = true
   . rw [if_pos hd, if_pos hd]
     rw [Bool.and_eq_true] at hd
     obtain ⟨e1, e2⟩ := lineF_up n hp hd.1
     rw [e1, shiftF_pos e2]
   . rw [if_neg hd, if_neg hd]
     by_cases hs : (decide (codeB b wMethod = 1) && decide (1 < numberOf b wSeats)) = true
     . rw [if_pos hs, if_pos hs]
       rw [Bool.and_eq_true, decide_eq_true_eq, decide_eq_true_eq] at hs
       have hh : hasF b wSeats = true := by
        unfold hasF
        cases hf : fieldOf b wSeats with
        | some f => rfl
        | none =>
         have : numberOf b wSeats = 0 := by
          unfold numberOf valueOf valuesOf
          rw [hf]
          rfl
         omega
       obtain ⟨e1, e2⟩ := lineF_up n hp hh
       rw [e1, shiftF_pos e2]
     . rw [if_neg hs, if_neg hs]; rfl
 . rw [if_neg hc, if_neg hc]
   by_cases hs : b.kind = kScan
   . rw [if_pos hs, if_pos hs]
     by_cases hb : numberOf b wMarked < numberOf b wBlank
     . rw [if_pos hb, if_pos hb, shiftF_pos hp.1]
     . rw [if_neg hb, if_neg hb]; rfl
   . rw [if_neg hs, if_neg hs]; rfl
theorem blockE_up (n : Int) (e : List SBlc) {b : SBlc} (hp : PosB b) : blockE (e.map (SBlc.up n)) (b.up n) = shiftF n (blockE e b) := by
 unfold blockE
 have h1 : (SBlc.up n b).kind = b.kind := rfl
 have h2 : (SBlc.up n b).line = b.line + n := rfl
 have h3 : (SBlc.up n b).flds = b.flds.map (SFld.up n) := rfl
 have h4 : fldsGo b.kind [] (b.flds.map (SFld.up n)) = shiftF n (fldsGo b.kind [] b.flds) := fldsGo_up n b.kind b.flds [] hp.2
 rw [headE_up, h1, h2, h3, h4, lacksF_up, togE_up n hp, shiftF_1]
 by_cases ha : headE e b ≠ 0
 . rw [if_pos ha, if_pos ha, shiftF_pos hp.1]
 . rw [if_neg ha, if_neg ha]
   by_cases hb : (fldsGo b.kind [] b.flds).1 ≠ 0
   . rw [if_pos hb, if_pos hb]
   . rw [if_neg hb, if_neg hb]
     by_cases hc : lacksF b = true
     . rw [if_pos hc, if_pos hc, shiftF_pos hp.1]
     . rw [if_neg hc, if_neg hc]
theorem blksGo_up (n : Int) : ∀ (bs e : List SBlc), (∀ b ∈ bs, PosB b) -> blksGo (e.map (SBlc.up n)) (bs.map (SBlc.up n)) = shiftF n (blksGo e bs)
  | [], e, _ => rfl
  | b :: r, e, hp => by
   rw [List.map_cons, blksGo, blksGo, blockE_up n e (hp b List.mem_cons_self), shiftF_1]
   by_cases h : (blockE e b).1 ≠ 0
   . rw [if_pos h, if_pos h]
   . rw [if_neg h, if_neg h]
     have := blksGo_up n r (e ++ [b]) (fun x hx => hp x (List.mem_cons_of_mem _ hx))
     rw [List.map_append, List.map_cons, List.map_nil] at this
     exact this
theorem precGo_line (P : List (List UInt8)) (l l' : Int) : ∀ (vs used : List (List UInt8)), (precGo P l' used vs).2 = (precGo P l used vs).2 /\ (precGo P l' used vs).1.1 = (precGo P l used vs).1.1 /\ ((precGo P l used vs).1.1 ≠ 0 -> vs ≠ [] /\ (precGo P l used vs).1.2 = l /\ (precGo P l' used vs).1.2 = l')
  | [], used => ⟨rfl, rfl, fun h => absurd rfl h⟩
  | v :: r, used => by
   rw [precGo, precGo]
   by_cases h : (!P.contains v) = true
   . rw [if_pos h, if_pos h]
     exact ⟨rfl, rfl, fun _ => ⟨(by simp), rfl, rfl⟩⟩
   . rw [if_neg h, if_neg h]
     by_cases h2 : used.contains v = true
     . rw [if_pos h2, if_pos h2]
       exact ⟨rfl, rfl, fun _ => ⟨(by simp), rfl, rfl⟩⟩
     . rw [if_neg h2, if_neg h2]
       obtain ⟨a, b, c⟩ := precGo_line P l l' r (used ++ [v])
       exact ⟨a, b, fun hh => ⟨(by simp), (c hh).2⟩⟩
theorem has_vals {b : SBlc} {k : List UInt8} (h : valuesOf b k ≠ []) : hasF b k = true := by
 unfold hasF
 cases hf : fieldOf b k with
 | some f => rfl
 | none =>
  exfalso
  apply h
  unfold valuesOf
  rw [hf]
theorem stylesGo_up (n : Int) (P C : List (List UInt8)) : ∀ (bs : List SBlc) (used : List (List UInt8)), (∀ b ∈ bs, PosB b) -> stylesGo P C used (bs.map (SBlc.up n)) = shiftF n (stylesGo P C used bs)
  | [], used, _ => by
   show stylesGo P C used [] = _
   rw [stylesGo]
   by_cases h : used.length < P.length
   . rw [if_pos h]; rfl
   . rw [if_neg h]; rfl
  | b :: r, used, hp => by
   have hb := hp b List.mem_cons_self
   rw [List.map_cons, stylesGo, stylesGo, valuesOf_up, valuesOf_up]
   obtain ⟨a1, a2, a3⟩ := precGo_line P (lineF b kPrecincts) (lineF (b.up n) kPrecincts) (valuesOf b kPrecincts) used
   rw [a1, a2]
   by_cases h : (precGo P (lineF b kPrecincts) used (valuesOf b kPrecincts)).1.1 ≠ 0
   . rw [if_pos h, if_pos h]
     obtain ⟨c1, c2, c3⟩ := a3 h
     obtain ⟨e1, e2⟩ := lineF_up n hb (has_vals c1)
     have x1 : (precGo P (lineF b kPrecincts) used (valuesOf b kPrecincts)).1 = ((precGo P (lineF b kPrecincts) used (valuesOf b kPrecincts)).1.1, lineF b kPrecincts) := Prod.ext rfl c2
     rw [x1, shiftF_pos e2]
     exact Prod.ext a2 (by rw [c3, e1])
   . rw [if_neg h, if_neg h]
     unfold contE
     by_cases hc : ((valuesOf b wContests).all fun v => C.contains v) = true
     . rw [if_pos hc, if_pos hc, if_neg (by simp), if_neg (by simp)]
       exact stylesGo_up n P C r _ (fun x hx => hp x (List.mem_cons_of_mem _ hx))
     . rw [if_neg hc, if_neg hc, if_pos (by simp), if_pos (by simp)]
       have hv : valuesOf b wContests ≠ [] := fun e => hc (by rw [e]; rfl)
       obtain ⟨e1, e2⟩ := lineF_up n hb (has_vals hv)
       rw [e1, shiftF_pos e2]
theorem missK_up (n : Int) (bs : List SBlc) : missK (bs.map (SBlc.up n)) = missK bs := by
 unfold missK
 congr 1
 funext r
 rw [ofKind_up]
 cases ofKind r.kind bs <;> rfl
theorem contNames_up (n : Int) (bs : List SBlc) : contNames (bs.map (SBlc.up n)) = contNames bs := by unfold contNames; rw [ofKind_up, namesOf_up]
theorem precNames_up (n : Int) (bs : List SBlc) : precNames (bs.map (SBlc.up n)) = precNames bs := by
 unfold precNames
 rw [ofKind_up, List.flatMap_map]
 congr 1
 funext b
 exact valuesOf_up n b wNames
theorem checkS_up (n : Int) (s : SSrc) (hp : ∀ b ∈ s.blks, PosB b) : checkS (s.up n) = shiftF n (checkS s) := by
 unfold checkS
 have h1 : (SSrc.up n s).title = s.title := rfl
 have h2 : (SSrc.up n s).blks = s.blks.map (SBlc.up n) := rfl
 have h3 : blksGo [] (s.blks.map (SBlc.up n)) = shiftF n (blksGo [] s.blks) := blksGo_up n s.blks [] hp
 rw [h1, h2, h3, missK_up, contNames_up, precNames_up, ofKind_up, shiftF_1]
 have h4 := stylesGo_up n (precNames s.blks) (contNames s.blks) (ofKind kStyle s.blks) [] (fun b hb => hp b (List.mem_filter.1 hb).1)
 rw [h4]
 by_cases ha : (!textB s.title 60) = true
 . rw [if_pos ha, if_pos ha]; rfl
 . rw [if_neg ha, if_neg ha]
   by_cases hb : (blksGo [] s.blks).1 ≠ 0
   . rw [if_pos hb, if_pos hb]
   . rw [if_neg hb, if_neg hb]
     by_cases hc : missK s.blks = true
     . rw [if_pos hc, if_pos hc]; rfl
     . rw [if_neg hc, if_neg hc]
theorem compS_up (n : Int) (s : SSrc) (hp : ∀ b ∈ s.blks, PosB b) : (compS (s.up n)).1 = shiftF n (compS s).1 := by
 unfold compS
 rw [checkS_up n s hp, shiftF_1]
 by_cases h : (checkS s).1 ≠ 0
 . rw [if_pos h, if_pos h]
 . rw [if_neg h, if_neg h]; rfl
end Go.Proofs.YtemdkkphmldgjaaGreatDoor.Lx
