/- Contracts of the library, laid at this program. -/
import Derived.Shelf.Strings.Count
import Derived.Test.YthgcodbcafpmhaaProg
namespace Go.Proofs
open Go.Shelf
def Try.lays138_ren : Go.Shelf.Ren := ⟨fun | 138 => 6 | 195 => 7 | 218 => 8 | 143 => 9 | 219 => 10 | 217 => 11 | 225 => 12 | 224 => 13 | 267 => 14 | 266 => 15 | 314 => 16 | n => n, fun | 9 => 9 | 3 => 3 | 4 => 4 | 5 => 5 | 0 => 0 | 46 => 27 | 146 => 29 | 51 => 28 | n => n, fun | 1 => 0 | n => n⟩
theorem Try.lays138 : Go.Proofs.Lays.n138 Try.prog Try.lays138_ren := {
  mixed := by kernel_rfl
  f138 := Try.func6.trans (congrArg some (by kernel_rfl))
  f143 := Try.func9.trans (congrArg some (by kernel_rfl))
  f195 := Try.func7.trans (congrArg some (by kernel_rfl))
  f217 := Try.func11.trans (congrArg some (by kernel_rfl))
  f218 := Try.func8.trans (congrArg some (by kernel_rfl))
  f219 := Try.func10.trans (congrArg some (by kernel_rfl))
  f224 := Try.func13.trans (congrArg some (by kernel_rfl))
  f225 := Try.func12.trans (congrArg some (by kernel_rfl))
  f266 := Try.func15.trans (congrArg some (by kernel_rfl))
  f267 := Try.func14.trans (congrArg some (by kernel_rfl))
  f314 := Try.func16.trans (congrArg some (by kernel_rfl))
  t0 := Try.underlying0
  a0 := Try.isAgg0
  z0 := Try.sizeOf0
  v0 := Try.zeroValue0
  t3 := Try.underlying3
  a3 := Try.isAgg3
  z3 := Try.sizeOf3
  v3 := Try.zeroValue3
  t4 := Try.underlying4
  a4 := Try.isAgg4
  z4 := Try.sizeOf4
  v4 := Try.zeroValue4
  t5 := Try.underlying5
  a5 := Try.isAgg5
  z5 := Try.sizeOf5
  v5 := Try.zeroValue5
  t9 := Try.underlying9
  a9 := Try.isAgg9
  z9 := Try.sizeOf9
  v9 := Try.zeroValue9
  t46 := Try.underlying27
  a46 := Try.isAgg27
  z46 := Try.sizeOf27
  v46 := Try.zeroValue27
  t51 := Try.underlying28
  a51 := Try.isAgg28
  z51 := Try.sizeOf28
  v51 := Try.zeroValue28
  t146 := Try.underlying29
  a146 := Try.isAgg29
  z146 := Try.sizeOf29
  v146 := Try.zeroValue29
  g1 := by kernel_rfl }
open Go.RowKit Go.Lib in
/-- strings.Count AT A substr OF ONE BYTE ('hp'): "Count counts the number of non-overlapping instances of substr in s.": IT RETURNS 'Lib.countByte s (that byte)'; the world is as it was. ✋ NO CONTRACT HERE YET at an empty substr (utf8.RuneCountInString) or at a longer one (a loop over strings.Index). (LAID: no walk: one application.) -/
theorem Try.strings_Count_one (s : ByteArray) (c : UInt8) (w : World) :
    Calls Try.prog 6 #[.string s, .string ⟨#[c]⟩] w fun e w' => e = .returned (.int .i64 (Lib.countByte s.data.toList c)) ∧ w' = w := Any.strings_Count_one Try.lays138 s c w
end Go.Proofs
