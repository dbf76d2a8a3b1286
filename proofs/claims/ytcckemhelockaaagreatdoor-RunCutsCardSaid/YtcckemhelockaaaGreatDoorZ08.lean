/- DERIVED: THE SHELF's CONTRACTS AT THIS DUMP, IN PLAIN WORDS (tools/lay-plain.mjs out of 'TryzShelf.lean', which tools/lay-shelf.mjs wrote): THE SAME DECLARATIONS UNDER THE SAME NAMES: 'import', 'namespace', 'open', 'def', 'theorem' AND NOTHING ELSE: no command of the shelf's: FOR A HAND-IN. Each laying: the table of numbers ('.._ren') and one theorem, a field a fact of the dump's own or the kernel's comparison; each contract: ONE APPLICATION; The program's readings of numbers and amounts (layer 2's), at this seat; What the landed package lex tells of bytes, words and names; The landed operation's fits, by what an operation has; What the laws of layer 10 lean on: what the program is asked, and the law's awake; What the landed Right tells; The landed value code: an amount told, made sure, less, cut. -/
import Derived.Test.YtcckemhelockaaaGreatDoorZL
import Derived.Test.YtcckemhelockaaaGreatDoorZ00
import Derived.Test.YtcckemhelockaaaGreatDoorZ01
import Derived.Test.YtcckemhelockaaaGreatDoorZ02
import Derived.Test.YtcckemhelockaaaGreatDoorZ03
import Derived.Test.YtcckemhelockaaaGreatDoorZ04
import Derived.Test.YtcckemhelockaaaGreatDoorZ05
import Derived.Test.YtcckemhelockaaaGreatDoorZ07
namespace Go.Proofs
open Go.Shelf
def Tryz.laysM171_ren : Go.Shelf.Ren := ⟨fun | 171 => 138 | 243 => 151 | 246 => 159 | 283 => 161 | 284 => 162 | 285 => 163 | 286 => 164 | 129 => 149 | 317 => 165 | 318 => 166 | 319 => 167 | 320 => 168 | 337 => 169 | 338 => 170 | n => n, fun | 3 => 3 | 9 => 9 | 2 => 2 | 4 => 4 | 171 => 189 | 0 => 0 | 53 => 176 | 37 => 119 | 5 => 5 | 173 => 191 | 212 => 194 | 51 => 174 | 20 => 20 | 213 => 195 | 46 => 157 | 232 => 196 | 233 => 197 | n => n, fun | 17 => 0 | 18 => 1 | 19 => 2 | n => n⟩
theorem Tryz.laysM171 : Go.Proofs.LaysM.n171 Tryz.prog Tryz.laysM171_ren := {
  mixed := by kernel_rfl
  f129 := Tryz.func149.trans (congrArg some (by kernel_rfl))
  f171 := Tryz.func138.trans (congrArg some (by kernel_rfl))
  f243 := Tryz.func151.trans (congrArg some (by kernel_rfl))
  f246 := Tryz.func159.trans (congrArg some (by kernel_rfl))
  f283 := Tryz.func161.trans (congrArg some (by kernel_rfl))
  f284 := Tryz.func162.trans (congrArg some (by kernel_rfl))
  f285 := Tryz.func163.trans (congrArg some (by kernel_rfl))
  f286 := Tryz.func164.trans (congrArg some (by kernel_rfl))
  f317 := Tryz.func165.trans (congrArg some (by kernel_rfl))
  f318 := Tryz.func166.trans (congrArg some (by kernel_rfl))
  f319 := Tryz.func167.trans (congrArg some (by kernel_rfl))
  f320 := Tryz.func168.trans (congrArg some (by kernel_rfl))
  f337 := Tryz.func169.trans (congrArg some (by kernel_rfl))
  f338 := Tryz.func170.trans (congrArg some (by kernel_rfl))
  t0 := Tryz.underlying0
  a0 := Tryz.isAgg0
  z0 := Tryz.sizeOf0
  v0 := Tryz.zeroValue0
  t2 := Tryz.underlying2
  a2 := Tryz.isAgg2
  z2 := Tryz.sizeOf2
  v2 := Tryz.zeroValue2
  t3 := Tryz.underlying3
  a3 := Tryz.isAgg3
  z3 := Tryz.sizeOf3
  v3 := Tryz.zeroValue3
  t4 := Tryz.underlying4
  a4 := Tryz.isAgg4
  z4 := Tryz.sizeOf4
  v4 := Tryz.zeroValue4
  t5 := Tryz.underlying5
  a5 := Tryz.isAgg5
  z5 := Tryz.sizeOf5
  v5 := Tryz.zeroValue5
  t9 := Tryz.underlying9
  a9 := Tryz.isAgg9
  z9 := Tryz.sizeOf9
  v9 := Tryz.zeroValue9
  t20 := Tryz.underlying20
  a20 := Tryz.isAgg20
  z20 := Tryz.sizeOf20
  v20 := Tryz.zeroValue20
  t37 := Tryz.underlying119
  a37 := Tryz.isAgg119
  z37 := Tryz.sizeOf119
  v37 := Tryz.zeroValue119
  t46 := Tryz.underlying157
  a46 := Tryz.isAgg157
  z46 := Tryz.sizeOf157
  v46 := Tryz.zeroValue157
  t51 := Tryz.underlying174
  a51 := Tryz.isAgg174
  z51 := Tryz.sizeOf174
  v51 := Tryz.zeroValue174
  t53 := Tryz.underlying176
  a53 := Tryz.isAgg176
  z53 := Tryz.sizeOf176
  v53 := Tryz.zeroValue176
  t171 := Tryz.underlying189
  a171 := Tryz.isAgg189
  z171 := Tryz.sizeOf189
  v171 := Tryz.zeroValue189
  t173 := Tryz.underlying191
  a173 := Tryz.isAgg191
  z173 := Tryz.sizeOf191
  v173 := Tryz.zeroValue191
  t212 := Tryz.underlying194
  a212 := Tryz.isAgg194
  z212 := Tryz.sizeOf194
  v212 := Tryz.zeroValue194
  t213 := Tryz.underlying195
  a213 := Tryz.isAgg195
  z213 := Tryz.sizeOf195
  t232 := Tryz.underlying196
  a232 := Tryz.isAgg196
  z232 := Tryz.sizeOf196
  v232 := Tryz.zeroValue196
  t233 := Tryz.underlying197
  a233 := Tryz.isAgg197
  z233 := Tryz.sizeOf197
  v233 := Tryz.zeroValue197
  g17 := by kernel_rfl
  g18 := by kernel_rfl
  g19 := by kernel_rfl
  i0 := by kernel_rfl
  i2 := by kernel_rfl
  i3 := by kernel_rfl
  i4 := by kernel_rfl
  i5 := by kernel_rfl
  i9 := by kernel_rfl
  i20 := by kernel_rfl
  i37 := by kernel_rfl
  i46 := by kernel_rfl
  i51 := by kernel_rfl
  i53 := by kernel_rfl
  i171 := by kernel_rfl
  i173 := by kernel_rfl
  i212 := by kernel_rfl
  i232 := by kernel_rfl
  i233 := by kernel_rfl
  m17 := by kernel_rfl
  m18 := by kernel_rfl
  m19 := by kernel_rfl }
open Go.RowKit Go.Sort Go.Lib in
/-- strconv.Itoa: "Itoa is equivalent to FormatInt(int64(i), 10).": i's DECIMAL NUMERAL ('Lib.itoa': a '-' where i is negative, then the digits), FOR EVERY int. The world behind the call: the world before it, new blocks behind the heap (the library's 'var a [24]byte'), draws. (LAID: no walk: one application.) -/
theorem Tryz.strconv_Itoa (n : Int) (h0 : -9223372036854775808 ≤ n) (h1 : n ≤ 9223372036854775807) (w : World) (htab : Lib.TabIs Tryz.prog w "internal/strconv.uint64pow10" .u64 Lib.pow10Tab) :
    Calls Tryz.prog 138 #[.int .i64 n] w fun e w' => e = .returned (.string ⟨(Lib.itoa n).toArray⟩) ∧ ∃ k os, w' = grow (w.drewN k) os := Any.strconv_Itoa Tryz.laysM171 n h0 h1 w htab
def Tryz.lays189_ren : Go.Shelf.Ren := ⟨fun | 189 => 99 | 125 => 128 | 257 => 127 | 128 => 148 | 129 => 149 | 294 => 139 | 295 => 140 | 296 => 141 | 297 => 142 | 298 => 143 | 299 => 144 | 216 => 145 | 300 => 146 | 301 => 147 | 328 => 152 | 329 => 153 | 330 => 154 | 331 => 155 | 332 => 156 | 215 => 157 | 343 => 160 | n => n, fun | 28 => 35 | 3 => 3 | 46 => 157 | 0 => 0 | 51 => 174 | 53 => 176 | 4 => 4 | 183 => 167 | 182 => 166 | 131 => 111 | 5 => 5 | 9 => 9 | 218 => 177 | 222 => 181 | 228 => 186 | 229 => 187 | n => n, fun | n => n⟩
theorem Tryz.lays189 : Go.Proofs.Lays.n189 Tryz.prog Tryz.lays189_ren := {
  mixed := by kernel_rfl
  f125 := Tryz.func128.trans (congrArg some (by kernel_rfl))
  f128 := Tryz.func148.trans (congrArg some (by kernel_rfl))
  f129 := Tryz.func149.trans (congrArg some (by kernel_rfl))
  f189 := Tryz.func99.trans (congrArg some (by kernel_rfl))
  f215 := Tryz.func157.trans (congrArg some (by kernel_rfl))
  f216 := Tryz.func145.trans (congrArg some (by kernel_rfl))
  f257 := Tryz.func127.trans (congrArg some (by kernel_rfl))
  f294 := Tryz.func139.trans (congrArg some (by kernel_rfl))
  f295 := Tryz.func140.trans (congrArg some (by kernel_rfl))
  f296 := Tryz.func141.trans (congrArg some (by kernel_rfl))
  f297 := Tryz.func142.trans (congrArg some (by kernel_rfl))
  f298 := Tryz.func143.trans (congrArg some (by kernel_rfl))
  f299 := Tryz.func144.trans (congrArg some (by kernel_rfl))
  f300 := Tryz.func146.trans (congrArg some (by kernel_rfl))
  f301 := Tryz.func147.trans (congrArg some (by kernel_rfl))
  f328 := Tryz.func152.trans (congrArg some (by kernel_rfl))
  f329 := Tryz.func153.trans (congrArg some (by kernel_rfl))
  f330 := Tryz.func154.trans (congrArg some (by kernel_rfl))
  f331 := Tryz.func155.trans (congrArg some (by kernel_rfl))
  f332 := Tryz.func156.trans (congrArg some (by kernel_rfl))
  f343 := Tryz.func160.trans (congrArg some (by kernel_rfl))
  t0 := Tryz.underlying0
  a0 := Tryz.isAgg0
  z0 := Tryz.sizeOf0
  v0 := Tryz.zeroValue0
  t3 := Tryz.underlying3
  a3 := Tryz.isAgg3
  z3 := Tryz.sizeOf3
  v3 := Tryz.zeroValue3
  t4 := Tryz.underlying4
  a4 := Tryz.isAgg4
  z4 := Tryz.sizeOf4
  v4 := Tryz.zeroValue4
  t5 := Tryz.underlying5
  a5 := Tryz.isAgg5
  z5 := Tryz.sizeOf5
  v5 := Tryz.zeroValue5
  t9 := Tryz.underlying9
  a9 := Tryz.isAgg9
  z9 := Tryz.sizeOf9
  v9 := Tryz.zeroValue9
  t28 := Tryz.underlying35
  a28 := Tryz.isAgg35
  z28 := Tryz.sizeOf35
  v28 := Tryz.zeroValue35
  t46 := Tryz.underlying157
  a46 := Tryz.isAgg157
  z46 := Tryz.sizeOf157
  v46 := Tryz.zeroValue157
  t51 := Tryz.underlying174
  a51 := Tryz.isAgg174
  z51 := Tryz.sizeOf174
  v51 := Tryz.zeroValue174
  t53 := Tryz.underlying176
  a53 := Tryz.isAgg176
  z53 := Tryz.sizeOf176
  v53 := Tryz.zeroValue176
  t131 := Tryz.underlying111
  a131 := Tryz.isAgg111
  z131 := Tryz.sizeOf111
  v131 := Tryz.zeroValue111
  t182 := Tryz.underlying166
  a182 := Tryz.isAgg166
  z182 := Tryz.sizeOf166
  v182 := Tryz.zeroValue166
  t183 := Tryz.underlying167
  a183 := Tryz.isAgg167
  z183 := Tryz.sizeOf167
  v183 := Tryz.zeroValue167
  t218 := Tryz.underlying177
  a218 := Tryz.isAgg177
  z218 := Tryz.sizeOf177
  v218 := Tryz.zeroValue177
  t222 := Tryz.underlying181
  a222 := Tryz.isAgg181
  z222 := Tryz.sizeOf181
  v222 := Tryz.zeroValue181
  t228 := Tryz.underlying186
  a228 := Tryz.isAgg186
  z228 := Tryz.sizeOf186
  v228 := Tryz.zeroValue186
  t229 := Tryz.underlying187
  a229 := Tryz.isAgg187
  z229 := Tryz.sizeOf187
  v229 := Tryz.zeroValue187 }
open Go.Sort Go.RowKit in
theorem Tryz.slices_Sort_int (blk off cap : Nat) (zs : List Int) (w : World) (hH : Holds (Value.int .i64) w blk off zs.toArray) (hblk : blk < w.heap.size) (hsz : zs.length < 4611686018427387904) :
    Calls Tryz.prog 99 #[.slice (some ⟨blk, off, none⟩) zs.length cap] w fun e w' =>
      e = .returned (.tuple #[]) ∧ ∃ n os, w' = grow (putRow (Value.int .i64) (Sort.ahead w n) blk off (zs.mergeSort fun x y => decide (x ≤ y)).toArray) os := Any.slices_Sort_int Tryz.lays189 blk off cap zs w hH hblk hsz
end Go.Proofs

namespace Go.Proofs.YtcckemhelockaaaGreatDoor
open Go.RowKit Go.Lib
set_option linter.unusedVariables false
set_option linter.unusedSimpArgs false
set_option maxHeartbeats 400000 in
theorem right_any (a : Int) (w : World) :
    Calls Tryz.prog 129 #[.int .i64 a] w fun e w' => e = .returned (.bool (rt a)) ∧ w = w' := by
  by_cases h1 : -1000000000000 ≤ a <;> by_cases h2 : a ≤ 1000000000000
  all_goals
    go_enter Tryz.func129, Tryz.ntmps129
    go_wp2
    all_goals
      go_ret
      exact ⟨ret_bool (by unfold rt; rw [eq_comm]; first | exact decide_eq_true (by omega) | exact decide_eq_false (by omega)), rfl⟩
end Go.Proofs.YtcckemhelockaaaGreatDoor

namespace Go.Proofs.YtcckemhelockaaaGreatDoor
open Go.RowKit Go.Lib
set_option linter.unusedVariables false
set_option linter.unusedSimpArgs false
theorem lletter_any (c : UInt8) (w : World) : Calls Tryz.prog 96 #[.int .u8 (c.toNat : Int)] w fun e w' => e = .returned (.bool (isL c)) ∧ w = w' := by
  by_cases h1 : 97 ≤ c.toNat <;> by_cases h2 : c.toNat ≤ 122
  all_goals
    go_enter Tryz.func96, Tryz.ntmps96
    go_wp2
    all_goals
      go_ret
      exact ⟨ret_bool (Bool.eq_iff_iff.2 (by simp [isL]; omega)), rfl⟩
theorem ldigit_any (c : UInt8) (w : World) : Calls Tryz.prog 98 #[.int .u8 (c.toNat : Int)] w fun e w' => e = .returned (.bool (isD c)) ∧ w = w' := by
  by_cases h1 : 48 ≤ c.toNat <;> by_cases h2 : c.toNat ≤ 57
  all_goals
    go_enter Tryz.func98, Tryz.ntmps98
    go_wp2
    all_goals
      go_ret
      exact ⟨ret_bool (Bool.eq_iff_iff.2 (by simp [isD]; omega)), rfl⟩
theorem lit_eq {s : ByteArray} {l : List UInt8} (h : B l = s) : (s.toList == l) = true := by have := list_of.2 h.symm; rwa [B_toList] at this
theorem lit_ne {s : ByteArray} {l : List UInt8} (h : ¬ B l = s) : (s.toList == l) = false := by have := list_ne (fun e => h e.symm); rwa [B_toList] at this
theorem word_ways (s : ByteArray) :
    ((s.toList == [108, 111, 119, 101, 115, 116]) = true ∧ isWord s.data.toList = true) ∨
    ((s.toList == [108, 111, 119, 101, 115, 116]) = false ∧ (s.toList == [115, 101, 99, 111, 110, 100]) = true ∧ isWord s.data.toList = true) ∨
    ((s.toList == [108, 111, 119, 101, 115, 116]) = false ∧ (s.toList == [115, 101, 99, 111, 110, 100]) = false ∧ (s.toList == [102, 114, 111, 109]) = true ∧ isWord s.data.toList = true) ∨
    ((s.toList == [108, 111, 119, 101, 115, 116]) = false ∧ (s.toList == [115, 101, 99, 111, 110, 100]) = false ∧ (s.toList == [102, 114, 111, 109]) = false ∧ (s.toList == [108, 101, 115, 115]) = true ∧ isWord s.data.toList = true) ∨
    ((s.toList == [108, 111, 119, 101, 115, 116]) = false ∧ (s.toList == [115, 101, 99, 111, 110, 100]) = false ∧ (s.toList == [102, 114, 111, 109]) = false ∧ (s.toList == [108, 101, 115, 115]) = false ∧ (s.toList == [99, 117, 116]) = true ∧ isWord s.data.toList = true) ∨
    ((s.toList == [108, 111, 119, 101, 115, 116]) = false ∧ (s.toList == [115, 101, 99, 111, 110, 100]) = false ∧ (s.toList == [102, 114, 111, 109]) = false ∧ (s.toList == [108, 101, 115, 115]) = false ∧ (s.toList == [99, 117, 116]) = false ∧ (s.toList == [109, 105, 110]) = true ∧ isWord s.data.toList = true) ∨
    ((s.toList == [108, 111, 119, 101, 115, 116]) = false ∧ (s.toList == [115, 101, 99, 111, 110, 100]) = false ∧ (s.toList == [102, 114, 111, 109]) = false ∧ (s.toList == [108, 101, 115, 115]) = false ∧ (s.toList == [99, 117, 116]) = false ∧ (s.toList == [109, 105, 110]) = false ∧ (s.toList == [109, 97, 120]) = true ∧ isWord s.data.toList = true) ∨
    ((s.toList == [108, 111, 119, 101, 115, 116]) = false ∧ (s.toList == [115, 101, 99, 111, 110, 100]) = false ∧ (s.toList == [102, 114, 111, 109]) = false ∧ (s.toList == [108, 101, 115, 115]) = false ∧ (s.toList == [99, 117, 116]) = false ∧ (s.toList == [109, 105, 110]) = false ∧ (s.toList == [109, 97, 120]) = false ∧ (s.toList == [101, 108, 115, 101]) = true ∧ isWord s.data.toList = true) ∨
    ((s.toList == [108, 111, 119, 101, 115, 116]) = false ∧ (s.toList == [115, 101, 99, 111, 110, 100]) = false ∧ (s.toList == [102, 114, 111, 109]) = false ∧ (s.toList == [108, 101, 115, 115]) = false ∧ (s.toList == [99, 117, 116]) = false ∧ (s.toList == [109, 105, 110]) = false ∧ (s.toList == [109, 97, 120]) = false ∧ (s.toList == [101, 108, 115, 101]) = false ∧ (s.toList == [105, 102]) = true ∧ isWord s.data.toList = true) ∨
    ((s.toList == [108, 111, 119, 101, 115, 116]) = false ∧ (s.toList == [115, 101, 99, 111, 110, 100]) = false ∧ (s.toList == [102, 114, 111, 109]) = false ∧ (s.toList == [108, 101, 115, 115]) = false ∧ (s.toList == [99, 117, 116]) = false ∧ (s.toList == [109, 105, 110]) = false ∧ (s.toList == [109, 97, 120]) = false ∧ (s.toList == [101, 108, 115, 101]) = false ∧ (s.toList == [105, 102]) = false ∧ (s.toList == [109, 111, 114, 101]) = true ∧ isWord s.data.toList = true) ∨
    ((s.toList == [108, 111, 119, 101, 115, 116]) = false ∧ (s.toList == [115, 101, 99, 111, 110, 100]) = false ∧ (s.toList == [102, 114, 111, 109]) = false ∧ (s.toList == [108, 101, 115, 115]) = false ∧ (s.toList == [99, 117, 116]) = false ∧ (s.toList == [109, 105, 110]) = false ∧ (s.toList == [109, 97, 120]) = false ∧ (s.toList == [101, 108, 115, 101]) = false ∧ (s.toList == [105, 102]) = false ∧ (s.toList == [109, 111, 114, 101]) = false ∧ (s.toList == [97, 98, 111, 118, 101]) = true ∧ isWord s.data.toList = true) ∨
    ((s.toList == [108, 111, 119, 101, 115, 116]) = false ∧ (s.toList == [115, 101, 99, 111, 110, 100]) = false ∧ (s.toList == [102, 114, 111, 109]) = false ∧ (s.toList == [108, 101, 115, 115]) = false ∧ (s.toList == [99, 117, 116]) = false ∧ (s.toList == [109, 105, 110]) = false ∧ (s.toList == [109, 97, 120]) = false ∧ (s.toList == [101, 108, 115, 101]) = false ∧ (s.toList == [105, 102]) = false ∧ (s.toList == [109, 111, 114, 101]) = false ∧ (s.toList == [97, 98, 111, 118, 101]) = false ∧ isWord s.data.toList = false) := by
  by_cases h0 : B [108, 111, 119, 101, 115, 116] = s
  · exact .inl ⟨lit_eq h0, word_yes (j := 0) (by omega) h0⟩
  by_cases h1 : B [115, 101, 99, 111, 110, 100] = s
  · exact .inr (.inl ⟨lit_ne h0, lit_eq h1, word_yes (j := 1) (by omega) h1⟩)
  by_cases h2 : B [102, 114, 111, 109] = s
  · exact .inr (.inr (.inl ⟨lit_ne h0, lit_ne h1, lit_eq h2, word_yes (j := 2) (by omega) h2⟩))
  by_cases h3 : B [108, 101, 115, 115] = s
  · exact .inr (.inr (.inr (.inl ⟨lit_ne h0, lit_ne h1, lit_ne h2, lit_eq h3, word_yes (j := 3) (by omega) h3⟩)))
  by_cases h4 : B [99, 117, 116] = s
  · exact .inr (.inr (.inr (.inr (.inl ⟨lit_ne h0, lit_ne h1, lit_ne h2, lit_ne h3, lit_eq h4, word_yes (j := 4) (by omega) h4⟩))))
  by_cases h5 : B [109, 105, 110] = s
  · exact .inr (.inr (.inr (.inr (.inr (.inl ⟨lit_ne h0, lit_ne h1, lit_ne h2, lit_ne h3, lit_ne h4, lit_eq h5, word_yes (j := 5) (by omega) h5⟩)))))
  by_cases h6 : B [109, 97, 120] = s
  · exact .inr (.inr (.inr (.inr (.inr (.inr (.inl ⟨lit_ne h0, lit_ne h1, lit_ne h2, lit_ne h3, lit_ne h4, lit_ne h5, lit_eq h6, word_yes (j := 6) (by omega) h6⟩))))))
  by_cases h7 : B [101, 108, 115, 101] = s
  · exact .inr (.inr (.inr (.inr (.inr (.inr (.inr (.inl ⟨lit_ne h0, lit_ne h1, lit_ne h2, lit_ne h3, lit_ne h4, lit_ne h5, lit_ne h6, lit_eq h7, word_yes (j := 7) (by omega) h7⟩)))))))
  by_cases h8 : B [105, 102] = s
  · exact .inr (.inr (.inr (.inr (.inr (.inr (.inr (.inr (.inl ⟨lit_ne h0, lit_ne h1, lit_ne h2, lit_ne h3, lit_ne h4, lit_ne h5, lit_ne h6, lit_ne h7, lit_eq h8, word_yes (j := 8) (by omega) h8⟩))))))))
  by_cases h9 : B [109, 111, 114, 101] = s
  · exact .inr (.inr (.inr (.inr (.inr (.inr (.inr (.inr (.inr (.inl ⟨lit_ne h0, lit_ne h1, lit_ne h2, lit_ne h3, lit_ne h4, lit_ne h5, lit_ne h6, lit_ne h7, lit_ne h8, lit_eq h9, word_yes (j := 9) (by omega) h9⟩)))))))))
  by_cases h10 : B [97, 98, 111, 118, 101] = s
  · exact .inr (.inr (.inr (.inr (.inr (.inr (.inr (.inr (.inr (.inr (.inl ⟨lit_ne h0, lit_ne h1, lit_ne h2, lit_ne h3, lit_ne h4, lit_ne h5, lit_ne h6, lit_ne h7, lit_ne h8, lit_ne h9, lit_eq h10, word_yes (j := 10) (by omega) h10⟩))))))))))
  exact .inr (.inr (.inr (.inr (.inr (.inr (.inr (.inr (.inr (.inr (.inr (⟨lit_ne h0, lit_ne h1, lit_ne h2, lit_ne h3, lit_ne h4, lit_ne h5, lit_ne h6, lit_ne h7, lit_ne h8, lit_ne h9, lit_ne h10, word_no (fun j hj => by
    rcases j with _|_|_|_|_|_|_|_|_|_|_|j
    · exact h0
    · exact h1
    · exact h2
    · exact h3
    · exact h4
    · exact h5
    · exact h6
    · exact h7
    · exact h8
    · exact h9
    · exact h10
    · omega)⟩)))))))))))
set_option maxHeartbeats 1000000 in
theorem lword_any (s : ByteArray) (w0 w : World) (hr : Rel w0 w) :
    Calls Tryz.prog 97 #[.string s] w fun e w' => e = .returned (.bool (isWord s.data.toList)) ∧ Rel w0 w' := by
  rcases word_ways s with ⟨k0, hw⟩ | ⟨k0, k1, hw⟩ | ⟨k0, k1, k2, hw⟩ | ⟨k0, k1, k2, k3, hw⟩ | ⟨k0, k1, k2, k3, k4, hw⟩ | ⟨k0, k1, k2, k3, k4, k5, hw⟩ | ⟨k0, k1, k2, k3, k4, k5, k6, hw⟩ | ⟨k0, k1, k2, k3, k4, k5, k6, k7, hw⟩ | ⟨k0, k1, k2, k3, k4, k5, k6, k7, k8, hw⟩ | ⟨k0, k1, k2, k3, k4, k5, k6, k7, k8, k9, hw⟩ | ⟨k0, k1, k2, k3, k4, k5, k6, k7, k8, k9, k10, hw⟩ | ⟨k0, k1, k2, k3, k4, k5, k6, k7, k8, k9, k10, hw⟩
  all_goals
    have HW := Lib.hid hw
    clear hw
    go_enter Tryz.func97, Tryz.ntmps97
    go_wp2_with (fail)
    go_ret
    exact ⟨ret_bool HW.out.symm, hr⟩
set_option maxHeartbeats 1000000 in
theorem lname_list (l : List UInt8) (hl : l.length ≤ 9223372036854775807) (w0 w : World) (hr : Rel w0 w) :
    Calls Tryz.prog 51 #[.string (B l)] w fun e w' => e = .returned (.bool (isName l)) ∧ Rel w0 w' := by
  cases l with
  | nil =>
    have HT := B_toList []
    go_enter Tryz.func51, Tryz.ntmps51
    go_wp2_with (fail)
    go_ret
    exact ⟨ret_bool rfl, hr⟩
  | cons c t =>
    have HT := B_toList (c :: t)
    have HB := B_cons_size c t
    have H0 := B_zero c t
    by_cases h12 : t.length + 1 ≤ 12
    · have z : ¬ (12 : Int) < (t.length : Int) + 1 := by omega
      cases hc : isL c
      · have HF := Lib.hid (show isName (c :: t) = false by rw [name_eq, hc]; simp)
        clear hl h12
        go_enter Tryz.func51, Tryz.ntmps51
        go_wp2_with (go_at_call 96; (with_reducible refine (bool_at false (lletter_any c _) (Lib.hid hc)).mono ?_); rintro e w' ⟨rfl, rfl⟩)
        go_ret
        exact ⟨ret_bool HF.out.symm, hr⟩
      · cases hw : isWord (c :: t)
        · have HC := Lib.hid hc
          have HWd := Lib.hid (show isWord (B (c :: t)).data.toList = false by rw [B_list]; exact hw)
          have HW0 := Lib.hid hw
          have HR := Lib.hid hr
          clear hw hc
          go_enter Tryz.func51, Tryz.ntmps51
          go_wp2_with (first
            | (go_at_call 96; (with_reducible refine (bool_at true (lletter_any c _) HC).mono ?_); rintro e w' ⟨rfl, rfl⟩)
            | (go_at_call 97; (with_reducible refine (bool_at false (lword_any _ _ _ hr.self) HWd).mono ?_); rintro e w1 ⟨rfl, h1⟩))
          go_loopw [3, 23] (fun _ i wr => ∃ j : Nat, j ≤ t.length + 1 ∧ i = .int .i64 j ∧ Hid (((c :: t).take j).all LD = true) ∧ wr = w1) (fun _ i _ => t.length + 1 - (RowKit.intOf i).toNat)
          case atStart => exact ⟨0, by omega, rfl, Lib.hid rfl, rfl⟩
          case round =>
            obtain ⟨j, hj, rfl, HA, rfl⟩ := hrel
            by_cases hlt : j < t.length + 1
            · have hlt' : j < (c :: t).length := by simpa using hlt
              obtain ⟨x, hx⟩ : ∃ x, x = (c :: t)[j] := ⟨_, rfl⟩
              have hg : ∀ h, (B (c :: t))[j]'h = x := fun h => by rw [hx]; rfl
              have HX := Lib.hid hx
              clear hx
              cases hL : isL x <;> cases hD : isD x
              · have HF := Lib.hid (show isName (c :: t) = false by rw [name_eq, all_bad j hlt' (by rw [← HX.out]; simp [LD, hL, hD])]; simp)
                have HL := Lib.hid hL
                have HD := Lib.hid hD
                clear hL hD
                go_wp2_with (first
                  | (go_at_call 96; (with_reducible refine (bool_at false (lletter_any x _) HL).mono ?_); rintro e w' ⟨rfl, rfl⟩)
                  | (go_at_call 98; (with_reducible refine (bool_at false (ldigit_any x _) HD).mono ?_); rintro e w' ⟨rfl, rfl⟩))
                go_ret
                exact ⟨ret_bool HF.out.symm, HR.out.trans h1⟩
              all_goals
                have HM := Lib.hid (all_more j hlt' HA.out (by rw [← HX.out]; simp [LD, hL, hD]))
                have HL := Lib.hid hL
                have HD := Lib.hid hD
                clear hL hD
                go_wp2_with (first
                  | (go_at_call 96; (with_reducible refine (bool_at _ (lletter_any x _) HL).mono ?_); rintro e w' ⟨rfl, rfl⟩)
                  | (go_at_call 98; (with_reducible refine (bool_at _ (ldigit_any x _) HD).mono ?_); rintro e w' ⟨rfl, rfl⟩))
                go_roundw
                case rel => exact ⟨j + 1, by omega, by go_num, HM, trivial⟩
                case measure => simp [RowKit.intOf]; omega
            · obtain rfl : j = t.length + 1 := by omega
              have HY := Lib.hid (show isName (c :: t) = true by
                have ha := HA.out
                rw [List.take_of_length_le (by simp)] at ha
                rw [name_eq, ha, HC.out, HW0.out, decide_eq_true h12]; rfl)
              go_wp2_with (fail)
              go_ret
              exact ⟨ret_bool HY.out.symm, HR.out.trans h1⟩
        · have HC := Lib.hid hc
          have HWd := Lib.hid (show isWord (B (c :: t)).data.toList = true by rw [B_list]; exact hw)
          have HF := Lib.hid (show isName (c :: t) = false by rw [name_eq, hw]; simp)
          clear hw hc
          go_enter Tryz.func51, Tryz.ntmps51
          go_wp2_with (first
            | (go_at_call 96; (with_reducible refine (bool_at true (lletter_any c _) HC).mono ?_); rintro e w' ⟨rfl, rfl⟩)
            | (go_at_call 97; (with_reducible refine (bool_at true (lword_any _ _ _ hr.self) HWd).mono ?_); rintro e w1 ⟨rfl, h1⟩))
          go_ret
          exact ⟨ret_bool HF.out.symm, hr.trans h1⟩
    · have HF := Lib.hid (show isName (c :: t) = false by rw [name_eq, decide_eq_false h12]; simp)
      have z : (12 : Int) < (t.length : Int) + 1 := by omega
      clear h12
      go_enter Tryz.func51, Tryz.ntmps51
      go_wp2_with (fail)
      go_ret
      exact ⟨ret_bool HF.out.symm, hr⟩
end Go.Proofs.YtcckemhelockaaaGreatDoor

namespace Go.Proofs.YtcckemhelockaaaGreatDoor
open Go.RowKit Go.Lib
set_option linter.unusedVariables false
set_option linter.unusedSimpArgs false
set_option maxRecDepth 100000 in
set_option maxHeartbeats 4000000 in
theorem fits_name (Wd : ByteArray) (M o n a z : Int) (nm : List UInt8) (hz : nm.length ≤ 9223372036854775807) (w0 w : World) (hr : Rel w0 w) :
    Calls Tryz.prog 72 #[.agg #[.string Wd, .int .i64 3, .int .i64 M], .agg #[.int .i64 o, .int .i64 n, .string (B nm)], .int .i64 a, .int .i64 z] w fun r w' => r = .returned (.bool (decide (n = 0) && isName nm)) ∧ Rel w0 w' := by
  have hA := Lib.hid ((hr.alloc (.cells #[.string Wd, .int .i64 3, .int .i64 M] 123)).alloc (.cells #[.int .i64 o, .int .i64 n, .string (B nm)] 45))
  have HT := B_toList nm
  by_cases h : n = 0
  · subst h
    go_enter Tryz.func72, Tryz.ntmps72
    go_wp2_with (go_at_call 51; (with_reducible refine (lname_list nm hz w0 _ hA.out).mono ?_); rintro e w1 ⟨rfl, h1⟩)
    go_ret
    exact ⟨ret_bool (by simp), h1⟩
  · have k1 : (n == 0) = false := by simpa using h
    go_enter Tryz.func72, Tryz.ntmps72
    go_wp2_with (fail)
    go_ret
    exact ⟨ret_bool (by simp [h]), hA.out⟩
set_option maxRecDepth 100000 in
set_option maxHeartbeats 4000000 in
theorem fits_place (Wd : ByteArray) (M o n a z : Int) (nm : List UInt8) (hz : nm.length ≤ 9223372036854775807) (w0 w : World) (hr : Rel w0 w) :
    Calls Tryz.prog 72 #[.agg #[.string Wd, .int .i64 2, .int .i64 M], .agg #[.int .i64 o, .int .i64 n, .string (B nm)], .int .i64 a, .int .i64 z] w fun r w' => r = .returned (.bool (decide (a < n) && decide (n ≤ z) && decide (nm = []))) ∧ Rel w0 w' := by
  have hA := Lib.hid ((hr.alloc (.cells #[.string Wd, .int .i64 2, .int .i64 M] 123)).alloc (.cells #[.int .i64 o, .int .i64 n, .string (B nm)] 45))
  have HT := B_toList nm
  by_cases h1 : a < n
  · have d1 : decide (a < n) = true := decide_eq_true h1
    by_cases h2 : n ≤ z
    · have d2 : decide (n ≤ z) = true := decide_eq_true h2
      cases nm with
      | nil =>
        have e0 : B [] = ⟨#[]⟩ := rfl
        go_enter Tryz.func72, Tryz.ntmps72
        go_wp2_with (fail)
        go_ret
        exact ⟨ret_bool (by simp [d1, d2]), hA.out⟩
      | cons ch tl =>
        have s2 : (ch :: tl == []) = false := rfl
        go_enter Tryz.func72, Tryz.ntmps72
        go_wp2_with (fail)
        go_ret
        exact ⟨ret_bool (by simp [d1, d2]), hA.out⟩
    · have d2 : decide (n ≤ z) = false := decide_eq_false h2
      go_enter Tryz.func72, Tryz.ntmps72
      go_wp2_with (fail)
      go_ret
      exact ⟨ret_bool (by simp [d1, d2]), hA.out⟩
  · have d1 : decide (a < n) = false := decide_eq_false h1
    go_enter Tryz.func72, Tryz.ntmps72
    go_wp2_with (fail)
    go_ret
    exact ⟨ret_bool (by simp [d1]), hA.out⟩
set_option maxRecDepth 100000 in
set_option maxHeartbeats 4000000 in
theorem fits_num (Wd : ByteArray) (H M o n a z : Int) (nm : List UInt8) (hz : nm.length ≤ 9223372036854775807) (h2' : (H == 2) = false) (h3' : (H == 3) = false) (w0 w : World) (hr : Rel w0 w) :
    Calls Tryz.prog 72 #[.agg #[.string Wd, .int .i64 H, .int .i64 M], .agg #[.int .i64 o, .int .i64 n, .string (B nm)], .int .i64 a, .int .i64 z] w fun r w' => r = .returned (.bool (decide (0 ≤ n) && decide (n ≤ M) && decide (nm = []))) ∧ Rel w0 w' := by
  have hA := Lib.hid ((hr.alloc (.cells #[.string Wd, .int .i64 H, .int .i64 M] 123)).alloc (.cells #[.int .i64 o, .int .i64 n, .string (B nm)] 45))
  have HT := B_toList nm
  by_cases h1 : 0 ≤ n
  · have d1 : decide (0 ≤ n) = true := decide_eq_true h1
    by_cases h2 : n ≤ M
    · have d2 : decide (n ≤ M) = true := decide_eq_true h2
      cases nm with
      | nil =>
        have e0 : B [] = ⟨#[]⟩ := rfl
        go_enter Tryz.func72, Tryz.ntmps72
        go_wp2_with (fail)
        go_ret
        exact ⟨ret_bool (by simp [d1, d2]), hA.out⟩
      | cons ch tl =>
        have s2 : (ch :: tl == []) = false := rfl
        go_enter Tryz.func72, Tryz.ntmps72
        go_wp2_with (fail)
        go_ret
        exact ⟨ret_bool (by simp [d1, d2]), hA.out⟩
    · have d2 : decide (n ≤ M) = false := decide_eq_false h2
      go_enter Tryz.func72, Tryz.ntmps72
      go_wp2_with (fail)
      go_ret
      exact ⟨ret_bool (by simp [d1, d2]), hA.out⟩
  · have d1 : decide (0 ≤ n) = false := decide_eq_false h1
    go_enter Tryz.func72, Tryz.ntmps72
    go_wp2_with (fail)
    go_ret
    exact ⟨ret_bool (by simp [d1]), hA.out⟩
end Go.Proofs.YtcckemhelockaaaGreatDoor

namespace Go.Proofs.YtcckemhelockaaaGreatDoor
open Go.RowKit Go.Lib
set_option linter.unusedVariables false
set_option linter.unusedSimpArgs false
def CRightOk : Prop := ∀ (A : Option Addr) (c : Nat) (l : List In) (w0 w : World), Rel w0 w → InsArg w A c l → Calls Tryz.prog 41 #[.slice A l.length c] w fun z w' => z = .returned (.bool (codeOk l)) ∧ Rel w0 w'
end Go.Proofs.YtcckemhelockaaaGreatDoor

namespace Go.Proofs.YtcckemhelockaaaGreatDoor
open Go.RowKit Go.Lib
set_option linter.unusedVariables false
set_option linter.unusedSimpArgs false
abbrev noOp : Value := .agg #[.string ⟨#[]⟩, .int .i64 0, .int .i64 0]
theorem ops_none {o : Int} (h : ¬ (1 ≤ o ∧ o ≤ 13)) : look opsL o = none := by
  unfold opsL
  simp only [look_cons]
  repeat rw [if_neg (by omega)]
  rfl
theorem ops_ways (o : Int) : ¬ (1 ≤ o ∧ o ≤ 13) ∨ o = 1 ∨ o = 2 ∨ o = 3 ∨ o = 4 ∨ o = 5 ∨ o = 6 ∨ o = 7 ∨ o = 8 ∨ o = 9 ∨ o = 10 ∨ o = 11 ∨ o = 12 ∨ o = 13 := by omega
/-- What fits is asked of an operation. -/
def FitsOp (o : Int) (Wd : ByteArray) (H M : Int) : Prop := ∀ (n : Int) (i len : Nat) (nm : List UInt8), nm.length ≤ 9223372036854775807 → ∀ w0 w, Rel w0 w →
    Calls Tryz.prog 72 #[.agg #[.string Wd, .int .i64 H, .int .i64 M], .agg #[.int .i64 o, .int .i64 n, .string (B nm)], .int .i64 (i : Int), .int .i64 (len : Int)] w fun r w' => r = .returned (.bool (inOk len i (o, n, nm))) ∧ Rel w0 w'
theorem fits_num_op (Wd : ByteArray) (H M o : Int) (h2 : (H == 2) = false) (h3 : (H == 3) = false) (ho : 1 ≤ o ∧ o ≤ 13) (h4 : o ≠ 4) (ht : isTo o = false) (hm : ∀ len, mostO len o = M) : FitsOp o Wd H M := fun n i len nm hz w0 w hr =>
  bool_at _ (fits_num Wd H M o n i len nm hz h2 h3 w0 w hr) (Lib.hid (by
    rw [inOk_eq, hm, if_neg h4, decide_eq_true ho, Bool.true_and]
    have : leastO i o = 0 := by unfold leastO; rw [ht]; rfl
    rw [this, Bool.decide_and]))
theorem fits_place_op (Wd : ByteArray) (M o : Int) (ho : o = 9 ∨ o = 12 ∨ o = 13) : FitsOp o Wd 2 M := fun n i len nm hz w0 w hr =>
  bool_at _ (fits_place Wd M o n i len nm hz w0 w hr) (Lib.hid (by
    obtain ⟨q1, q2⟩ := to_is ho i len
    rw [inOk_eq, q1, q2, if_neg (by omega), decide_eq_true (by omega : 1 ≤ o ∧ o ≤ 13), Bool.true_and, Bool.decide_and]
    rw [show decide ((i : Int) + 1 ≤ n) = decide ((i : Int) < n) from by rw [decide_eq_decide]; omega]))
theorem fits_name_op (Wd : ByteArray) (M : Int) : FitsOp 4 Wd 3 M := fun n i len nm hz w0 w hr =>
  bool_at _ (fits_name Wd M 4 n i len nm hz w0 w hr) (Lib.hid (by
    rw [inOk_eq, if_pos rfl]
    have e1 : leastO i 4 = 0 := rfl
    have e2 : mostO len 4 = 0 := rfl
    rw [e1, e2, decide_eq_true (by omega : (1 : Int) ≤ 4 ∧ (4 : Int) ≤ 13), Bool.true_and]
    congr 1
    rw [decide_eq_decide]; omega))
theorem ops_fits (o : Int) : ∃ (Wd : ByteArray) (H M : Int) (b : Bool), (look opsL o).getD noOp = .agg #[.string Wd, .int .i64 H, .int .i64 M] ∧ (look opsL o).isSome = b ∧ (b = false → ∀ len i n nm, inOk len i (o, n, nm) = false) ∧ (b = true → FitsOp o Wd H M) := by
  rcases ops_ways o with h | rfl | rfl | rfl | rfl | rfl | rfl | rfl | rfl | rfl | rfl | rfl | rfl | rfl
  · refine ⟨⟨#[]⟩, 0, 0, false, by rw [ops_none h]; rfl, by rw [ops_none h]; rfl, fun _ len i n nm => ?_, fun h => by cases h⟩
    rw [inOk_eq, decide_eq_false h]; rfl
  · exact ⟨_, _, _, true, rfl, rfl, (fun h => by cases h), fun _ => fits_num_op _ _ _ _ rfl rfl (by decide) (by decide) rfl (fun _ => rfl)⟩
  · exact ⟨_, _, _, true, rfl, rfl, (fun h => by cases h), fun _ => fits_num_op _ _ _ _ rfl rfl (by decide) (by decide) rfl (fun _ => rfl)⟩
  · exact ⟨_, _, _, true, rfl, rfl, (fun h => by cases h), fun _ => fits_num_op _ _ _ _ rfl rfl (by decide) (by decide) rfl (fun _ => rfl)⟩
  · exact ⟨_, _, _, true, rfl, rfl, (fun h => by cases h), fun _ => fits_name_op _ _⟩
  · exact ⟨_, _, _, true, rfl, rfl, (fun h => by cases h), fun _ => fits_num_op _ _ _ _ rfl rfl (by decide) (by decide) rfl (fun _ => rfl)⟩
  · exact ⟨_, _, _, true, rfl, rfl, (fun h => by cases h), fun _ => fits_num_op _ _ _ _ rfl rfl (by decide) (by decide) rfl (fun _ => rfl)⟩
  · exact ⟨_, _, _, true, rfl, rfl, (fun h => by cases h), fun _ => fits_num_op _ _ _ _ rfl rfl (by decide) (by decide) rfl (fun _ => rfl)⟩
  · exact ⟨_, _, _, true, rfl, rfl, (fun h => by cases h), fun _ => fits_num_op _ _ _ _ rfl rfl (by decide) (by decide) rfl (fun _ => rfl)⟩
  · exact ⟨_, _, _, true, rfl, rfl, (fun h => by cases h), fun _ => fits_place_op _ _ _ (by decide)⟩
  · exact ⟨_, _, _, true, rfl, rfl, (fun h => by cases h), fun _ => fits_num_op _ _ _ _ rfl rfl (by decide) (by decide) rfl (fun _ => rfl)⟩
  · exact ⟨_, _, _, true, rfl, rfl, (fun h => by cases h), fun _ => fits_num_op _ _ _ _ rfl rfl (by decide) (by decide) rfl (fun _ => rfl)⟩
  · exact ⟨_, _, _, true, rfl, rfl, (fun h => by cases h), fun _ => fits_place_op _ _ _ (by decide)⟩
  · exact ⟨_, _, _, true, rfl, rfl, (fun h => by cases h), fun _ => fits_place_op _ _ _ (by decide)⟩
theorem ops_run_ok {w : World} {q : Nat} (h : MapIs w q opsL) (o : Int) (ho : i64 o) {v : Value} {b : Bool} (hv : (look opsL o).getD noOp = v) (hb : (look opsL o).isSome = b) :
    (Instr.lookup 120 (.map (some q)) (.int .i64 o) true).run Tryz.prog w = .ok (.tuple #[v, .bool b]) w := by
  subst hv hb
  exact h.look_ok _ _ Tryz.underlying120 _ (by kernel_rfl) o (WalkArith.wf_i64 ho)
set_option maxRecDepth 100000 in
set_option maxHeartbeats 8000000 in
theorem cright_any : CRightOk := fun A c l w0 w hr h => by
  have HR := Lib.hid hr
  have HS := Lib.hid hr.self
  have HA := Lib.hid h.2.2.2
  have HF := Lib.hid h.2.2.1
  have hl : l.length ≤ 9223372036854775807 := by have := h.1; have := h.2.1; unfold maxLen at this; omega
  clear h hr
  by_cases h5 : 5000 < l.length
  · have HB := Lib.hid (code_many h5)
    have t1 : decide ((5000 : Int) < (l.length : Int)) = true := decide_eq_true (by omega)
    go_enter Tryz.func41, Tryz.ntmps41
    go_wp2_with (fail)
    go_ret
    exact ⟨ret_bool HB.out.symm, HR.out⟩
  have t1 : decide ((5000 : Int) < (l.length : Int)) = false := decide_eq_false (by omega)
  go_enter Tryz.func41, Tryz.ntmps41
  go_wp2_with (go_at_call 71; (with_reducible refine (operations_any w _ HS.out).mono ?_); rintro e w1 ⟨q, rfl, hq, m1, r1, _⟩)
  have HM := Lib.hid m1
  have HR1 := Lib.hid r1
  clear m1 r1
  go_loopw [14] (fun i wr => ∃ j : Nat, j ≤ l.length ∧ i = .int .i64 (j : Int) ∧ Hid (okTo l j = true) ∧ Rel w1 wr) (fun i _ => l.length - (RowKit.intOf i).toNat)
  case atStart => exact ⟨0, by omega, rfl, Lib.hid rfl, HR1.out.self⟩
  case round =>
    obtain ⟨i, hi, rfl, HN, hRw⟩ := hrel
    have HRw := Lib.hid hRw
    by_cases hlt : i < l.length
    · obtain ⟨g, off, o, n, nm, rfl, c0, c1, c2, ho⟩ := ins_at HA.out (HR1.out.trans hRw) i hlt
      have hfo := HF.out _ (List.getElem_mem hlt)
      rw [ho] at hfo
      obtain ⟨hof, _, hs⟩ := hfo
      have HO := Lib.hid ho
      obtain ⟨Wd, H, M, b, hv, hb, hno, hyes⟩ := ops_fits o
      have lk := ops_run_ok (((HM.out.rel hRw).alloc (.cells #[.int .i64 o, .int .i64 n, .string (B nm)] 45))) o hof hv hb
      have HX := Lib.hid ((Bk.new wr 45 #[.int .i64 o, .int .i64 n, .string (B nm)]))
      have HX2 := Lib.hid ((Bk.new wr 45 #[.int .i64 o, .int .i64 n, .string (B nm)]).alloc (.cells #[.string Wd, .int .i64 H, .int .i64 M] 123))
      have HY := Lib.hid (Bk.new (wr.alloc (.cells #[.int .i64 o, .int .i64 n, .string (B nm)] 45)) 123 #[.string Wd, .int .i64 H, .int .i64 M])
      have HRa := Lib.hid ((hRw.alloc (.cells #[.int .i64 o, .int .i64 n, .string (B nm)] 45)).alloc (.cells #[.string Wd, .int .i64 H, .int .i64 M] 123))
      obtain ⟨⟨x0, x1, x2⟩, _⟩ := three_of HX.out
      obtain ⟨⟨y0, y1, y2⟩, _⟩ := three_of HX2.out
      obtain ⟨⟨z0, z1, z2⟩, _⟩ := three_of HY.out
      rw [World.size_alloc] at z0 z1 z2
      clear ho hRw
      cases b with
      | false =>
        have HE := Lib.hid (hno rfl l.length i n nm)
        clear hno hyes
        go_wp2_with (fail)
        go_ret
        exact ⟨ret_bool (code_bad hlt HO.out HE.out).symm, HR.out.trans (HR1.out.trans HRa.out)⟩
      | true =>
        obtain ⟨bv, hbv⟩ : ∃ bv, inOk l.length i (o, n, nm) = bv := ⟨_, rfl⟩
        have HC := Lib.hid (hyes rfl n i l.length nm hs w1 _ HRa.out)
        rw [hbv] at HC
        have HE := Lib.hid hbv
        clear hno hyes hbv
        cases bv with
        | false =>
          go_wp2_with (go_at_call 72; (with_reducible refine HC.out.mono ?_); rintro e w2 ⟨rfl, r2⟩)
          go_ret
          exact ⟨ret_bool (code_bad hlt HO.out HE.out).symm, HR.out.trans (HR1.out.trans r2)⟩
        | true =>
          go_wp2_with (go_at_call 72; (with_reducible refine HC.out.mono ?_); rintro e w2 ⟨rfl, r2⟩)
          go_roundw
          case rel => exact ⟨i + 1, by omega, by go_num, Lib.hid (okTo_step hlt HO.out HN.out HE.out), r2⟩
          case measure => simp [RowKit.intOf]; omega
    · obtain rfl : i = l.length := by omega
      have HB := Lib.hid (code_full (by omega) HN.out)
      clear hRw
      go_wp2_with (fail)
      go_ret
      exact ⟨ret_bool HB.out.symm, HR.out.trans (HR1.out.trans HRw.out)⟩
end Go.Proofs.YtcckemhelockaaaGreatDoor

namespace Go.Proofs.YtcckemhelockaaaGreatDoor
open Go.RowKit Go.Lib
set_option linter.unusedVariables false
set_option linter.unusedSimpArgs false
/-- What a reckoning tells; how one ends that meets an error. -/
abbrev TV (o : Option Int) : Value := .agg #[.int .i64 (o.getD 0), .bool o.isSome]
abbrev FLV : Ending := .panicked [{ v := .iface 30 (.int .i64 10), recovered := false }]
def TPost (w0 : World) (r : Rs) (e : Ending) (w' : World) : Prop := match r with
  | .ok o => e = .returned (TV o) ∧ Rel w0 w'
  | .error _ => e = FLV ∧ Rel w0 w'
theorem TPost.yes {w0 w' : World} {r : Rs} {e : Ending} {o : Option Int} (h : r = .ok o) (he : e = .returned (TV o)) (hr : Rel w0 w') : TPost w0 r e w' := by subst h; exact ⟨he, hr⟩
theorem TPost.no {w0 w' : World} {r : Rs} {e : Ending} {er : Int} (h : r = .error er) (he : e = FLV) (hr : Rel w0 w') : TPost w0 r e w' := by subst h; exact ⟨he, hr⟩
theorem two2_is (a b n : Int) : two2 a b n = 0 ∨ two2 a b n = 10 := by
  unfold two2 told2
  split
  · split
    · exact .inl rfl
    · exact .inr rfl
  · exact .inr rfl
theorem part2_is (a b : Int) (u : Bool) : part2 a b u = 0 ∨ part2 a b u = 10 := by
  unfold part2 told2
  split
  · split
    · exact .inl rfl
    · exact .inr rfl
  · exact .inr rfl
theorem vamount_any (n : Int) (w0 w : World) (hr : Rel w0 w) :
    Calls Tryz.prog 59 #[.int .i64 n] w fun e w' => e = .returned (.agg #[.int .i64 n, .bool true]) ∧ Rel w0 w' := by
  have HR := Lib.hid hr
  have hz := hr.size
  clear hr
  go_enter Tryz.func59, Tryz.ntmps59
  go_wp2_with (fail)
  exact bodyPost_ret (v := TV (some n)) (by simp [results, Tryz.results59, go_sem]) rfl ⟨rfl, by first | exact HR.out.alloc _ | exact ((HR.out.alloc _).setCell hz _).setCell hz _⟩
theorem vsure_ok (n : Int) (w : World) :
    Calls Tryz.prog 100 #[.int .i64 n, .int .i64 0] w fun e w' => e = .returned (.int .i64 n) ∧ w = w' := by
  go_enter Tryz.func100, Tryz.ntmps100
  go_wp2_with (fail)
  go_ret
  exact ⟨rfl, rfl⟩
theorem vsure_no (n : Int) (w : World) :
    Calls Tryz.prog 100 #[.int .i64 n, .int .i64 10] w fun e w' => e = FLV ∧ w = w' := by
  go_enter Tryz.func100, Tryz.ntmps100
  go_wp2_with (fail)
  exact ⟨rfl, rfl, rfl⟩
set_option maxRecDepth 100000 in
set_option maxHeartbeats 1000000 in
theorem vless_none (v n : Int) (w0 w : World) (hr : Rel w0 w) :
    Calls Tryz.prog 54 #[.agg #[.int .i64 v, .bool false], .int .i64 n] w fun e w' => e = .returned (.agg #[.int .i64 0, .bool false]) ∧ Rel w0 w' := by
  have HR := Lib.hid hr
  have hz := hr.size
  have HB := Lib.hid ((Bk.new w 81 #[.int .i64 v, .bool false]).alloc (.cells #[.int .i64 0, .bool false] 81))
  have HT := Lib.hid (Bk.snd w #[.int .i64 v, .bool false] #[.int .i64 0, .bool false] 81 81)
  have HA := Lib.hid ((hr.self.alloc (.cells #[.int .i64 v, .bool false] 81)).alloc (.cells #[.int .i64 0, .bool false] 81))
  obtain ⟨W, hW⟩ : ∃ W, (w.alloc (.cells #[.int .i64 v, .bool false] 81)).alloc (.cells #[.int .i64 0, .bool false] 81) = W := ⟨_, rfl⟩
  rw [hW] at HB HT HA
  obtain ⟨⟨c0, c1⟩, _⟩ := HB.out.two
  obtain ⟨⟨d0, d1⟩, e0, e1⟩ := HT.out.two
  clear hr
  go_enter Tryz.func54, Tryz.ntmps54
  go_wp2_with (fail)
  exact bodyPost_ret (v := TV none) (by simp [results, Tryz.results54, go_sem, d0, d1]) rfl ⟨rfl, ((HR.out.trans HA.out).setCell (Nat.le_succ_of_le hz) _).setCell (Nat.le_succ_of_le hz) _⟩
set_option maxRecDepth 100000 in
set_option maxHeartbeats 1000000 in
theorem vless_some (v n : Int) (w0 w : World) (hr : Rel w0 w) :
    Calls Tryz.prog 54 #[.agg #[.int .i64 v, .bool true], .int .i64 n] w (TPost w0 (subR v n)) := by
  have HR := Lib.hid hr
  have hz := hr.size
  have HB := Lib.hid ((Bk.new w 81 #[.int .i64 v, .bool true]).alloc (.cells #[.int .i64 0, .bool false] 81))
  have HT := Lib.hid (Bk.snd w #[.int .i64 v, .bool true] #[.int .i64 0, .bool false] 81 81)
  have HA := Lib.hid ((hr.self.alloc (.cells #[.int .i64 v, .bool true] 81)).alloc (.cells #[.int .i64 0, .bool false] 81))
  obtain ⟨W, hW⟩ : ∃ W, (w.alloc (.cells #[.int .i64 v, .bool true] 81)).alloc (.cells #[.int .i64 0, .bool false] 81) = W := ⟨_, rfl⟩
  rw [hW] at HB HT HA
  obtain ⟨⟨c0, c1⟩, _⟩ := HB.out.two
  have HS := Lib.hid (fun w => m9sub_any v n w)
  clear hr
  rcases two2_is v n (v - n) with h | h
  · have HF := Lib.hid (show subR v n = .ok (some (two1 v n (v - n))) by unfold subR; rw [if_pos h])
    rw [h] at HS
    generalize two1 v n (v - n) = U at *
    unfold Two at HS
    clear h
    go_enter Tryz.func54, Tryz.ntmps54
    go_wp2_with (first
      | (go_at_call 101; (with_reducible refine (HS.out _).mono ?_); rintro e w1 ⟨rfl, rfl⟩)
      | (go_at_call 100; (with_reducible refine (vsure_ok U _).mono ?_); rintro e w2 ⟨rfl, rfl⟩)
      | (go_at_call 59; (with_reducible refine (vamount_any U _ _ HA.out.self).mono ?_); rintro e w3 ⟨rfl, h3⟩; have R3 := Lib.hid h3; obtain ⟨⟨d0, d1⟩, e0, e1⟩ := (HT.out.rel h3).two))
    exact bodyPost_ret (v := TV (some U)) (by simp [results, Tryz.results54, go_sem, d0, d1]) rfl (TPost.yes HF.out rfl ((((HR.out.trans HA.out).trans R3.out).setCell (Nat.le_succ_of_le hz) _).setCell (Nat.le_succ_of_le hz) _))
  · have HF := Lib.hid (show subR v n = .error 10 by unfold subR; rw [if_neg (by omega), h])
    rw [h] at HS
    generalize two1 v n (v - n) = U at *
    unfold Two at HS
    clear h
    go_enter Tryz.func54, Tryz.ntmps54
    go_wp2_with (first
      | (go_at_call 101; (with_reducible refine (HS.out _).mono ?_); rintro e w1 ⟨rfl, rfl⟩)
      | (go_at_call 100; (with_reducible refine (vsure_no U _).mono ?_); rintro e w2 ⟨rfl, rfl⟩))
    exact ⟨rfl, TPost.no HF.out rfl (HR.out.trans HA.out)⟩
end Go.Proofs.YtcckemhelockaaaGreatDoor
