/- The landed value code: an amount told, made sure, less, cut; DERIVED: THE SHELF's CONTRACTS AT THIS DUMP, IN PLAIN WORDS (tools/lay-plain.mjs out of 'TrydShelf.lean', which tools/lay-shelf.mjs wrote): THE SAME DECLARATIONS UNDER THE SAME NAMES: 'import', 'namespace', 'open', 'def', 'theorem' AND NOTHING ELSE: no command of the shelf's: FOR A HAND-IN. Each laying: the table of numbers ('.._ren') and one theorem, a field a fact of the dump's own or the kernel's comparison; each contract: ONE APPLICATION; Numbers in rising order: what the library's sort leaves in a row of one's own; The landed value code: a seller's price; the price at a place in rising order; The landed value code: the price at a place in rising order. -/
import Derived.Test.YtpehlldgnbajjaaDoorZ06
import Derived.Test.YtpehlldgnbajjaaDoorZ15
import Derived.Test.YtpehlldgnbajjaaDoorZ10
import Derived.Shelf.Strings.Builder1
import Derived.Shelf.Small.Wraps
import Derived.Shelf.Strings.BuilderF
import Derived.Shelf.Strings.BuilderK
import Derived.Shelf.Strconv.Itoa0
import Derived.Shelf.Strconv.Itoa1
import Derived.Shelf.LaysM
import Derived.Shelf.Strconv.Itoa2
import Derived.Shelf.Strconv.Itoa3
import Derived.Shelf.Sort.Plain
import Derived.Shelf.Slices.In.SortNone
import Derived.Test.YtpehlldgnbajjaaDoorProg
import Derived.Test.YtpehlldgnbajjaaDoorZ13
namespace Go.Proofs.YtpehlldgnbajjaaDoor
open Go.RowKit Go.Lib
set_option linter.unusedVariables false
set_option linter.unusedSimpArgs false

/-- What a reckoning tells; how one ends that meets an error. -/
abbrev TV (o : Option Int) : Value := .agg #[.int .i64 (o.getD 0), .bool o.isSome]
abbrev FLV : Ending := .panicked [{ v := .iface 31 (.int .i64 10), recovered := false }]
def TPost (w0 : World) (r : Rs) (e : Ending) (w' : World) : Prop := match r with
  | .ok o => e = .returned (TV o) ∧ Rel w0 w'
  | .error _ => e = FLV ∧ Rel w0 w'
theorem TPost.yes {w0 w' : World} {r : Rs} {e : Ending} {o : Option Int} (h : r = .ok o) (he : e = .returned (TV o)) (hr : Rel w0 w') : TPost w0 r e w' := by subst h; exact ⟨he, hr⟩
theorem TPost.no {w0 w' : World} {r : Rs} {e : Ending} {er : Int} (h : r = .error er) (he : e = FLV) (hr : Rel w0 w') : TPost w0 r e w' := by subst h; exact ⟨he, hr⟩
theorem two2_is (a b n : Int) : two2 a b n = 0 ∨ two2 a b n = 10 := by
  unfold two2 told2
  split
  · split
    · exact .inl rfl
    · exact .inr rfl
  · exact .inr rfl
theorem part2_is (a b : Int) (u : Bool) : part2 a b u = 0 ∨ part2 a b u = 10 := by
  unfold part2 told2
  split
  · split
    · exact .inl rfl
    · exact .inr rfl
  · exact .inr rfl
theorem Bk.two' {w : World} {g : Nat} {t : TypeId} {x0 x1 : Value} (h : Bk w g t #[x0, x1]) : (w.cell? ⟨g, 0, none⟩ = some x0 ∧ w.cell? ⟨g, 1, none⟩ = some x1) ∧ w.frozen? ⟨g, 0, none⟩ = false ∧ w.frozen? ⟨g, 1, none⟩ = false := h.two
theorem vamount_any (n : Int) (w0 w : World) (hr : Rel w0 w) :
    Calls Tryd.prog 39 #[.int .i64 n] w fun e w' => e = .returned (.agg #[.int .i64 n, .bool true]) ∧ Rel w0 w' := by
  have HR := Lib.hid hr
  have hz := hr.size
  clear hr
  go_enter Tryd.func39, Tryd.ntmps39
  go_wp2_with (fail)
  exact bodyPost_ret (v := TV (some n)) (by simp [results, Tryd.results39, go_sem]) rfl ⟨rfl, by first | exact HR.out.alloc _ | exact ((HR.out.alloc _).setCell hz _).setCell hz _⟩
theorem vsure_ok (n : Int) (w : World) :
    Calls Tryd.prog 50 #[.int .i64 n, .int .i64 0] w fun e w' => e = .returned (.int .i64 n) ∧ w = w' := by
  go_enter Tryd.func50, Tryd.ntmps50
  go_wp2_with (fail)
  go_ret
  exact ⟨rfl, rfl⟩
theorem vsure_no (n : Int) (w : World) :
    Calls Tryd.prog 50 #[.int .i64 n, .int .i64 10] w fun e w' => e = FLV ∧ w = w' := by
  go_enter Tryd.func50, Tryd.ntmps50
  go_wp2_with (fail)
  exact ⟨rfl, rfl, rfl⟩
set_option maxRecDepth 100000 in
set_option maxHeartbeats 1000000 in
theorem vless_none (v n : Int) (w0 w : World) (hr : Rel w0 w) :
    Calls Tryd.prog 35 #[.agg #[.int .i64 v, .bool false], .int .i64 n] w fun e w' => e = .returned (.agg #[.int .i64 0, .bool false]) ∧ Rel w0 w' := by
  have HR := Lib.hid hr
  have hz := hr.size
  have HB := Lib.hid ((Bk.new w 52 #[.int .i64 v, .bool false]).alloc (.cells #[.int .i64 0, .bool false] 52))
  have HT := Lib.hid (Bk.snd w #[.int .i64 v, .bool false] #[.int .i64 0, .bool false] 52 52)
  have HA := Lib.hid ((hr.self.alloc (.cells #[.int .i64 v, .bool false] 52)).alloc (.cells #[.int .i64 0, .bool false] 52))
  obtain ⟨W, hW⟩ : ∃ W, (w.alloc (.cells #[.int .i64 v, .bool false] 52)).alloc (.cells #[.int .i64 0, .bool false] 52) = W := ⟨_, rfl⟩
  rw [hW] at HB HT HA
  obtain ⟨⟨c0, c1⟩, _⟩ := HB.out.two
  obtain ⟨⟨d0, d1⟩, e0, e1⟩ := HT.out.two
  clear hr
  go_enter Tryd.func35, Tryd.ntmps35
  go_wp2_with (fail)
  exact bodyPost_ret (v := TV none) (by simp [results, Tryd.results35, go_sem, d0, d1]) rfl ⟨rfl, ((HR.out.trans HA.out).setCell (Nat.le_succ_of_le hz) _).setCell (Nat.le_succ_of_le hz) _⟩
set_option maxRecDepth 100000 in
set_option maxHeartbeats 1000000 in
theorem vless_some (v n : Int) (w0 w : World) (hr : Rel w0 w) :
    Calls Tryd.prog 35 #[.agg #[.int .i64 v, .bool true], .int .i64 n] w (TPost w0 (subR v n)) := by
  have HR := Lib.hid hr
  have hz := hr.size
  have HB := Lib.hid ((Bk.new w 52 #[.int .i64 v, .bool true]).alloc (.cells #[.int .i64 0, .bool false] 52))
  have HT := Lib.hid (Bk.snd w #[.int .i64 v, .bool true] #[.int .i64 0, .bool false] 52 52)
  have HA := Lib.hid ((hr.self.alloc (.cells #[.int .i64 v, .bool true] 52)).alloc (.cells #[.int .i64 0, .bool false] 52))
  obtain ⟨W, hW⟩ : ∃ W, (w.alloc (.cells #[.int .i64 v, .bool true] 52)).alloc (.cells #[.int .i64 0, .bool false] 52) = W := ⟨_, rfl⟩
  rw [hW] at HB HT HA
  obtain ⟨⟨c0, c1⟩, _⟩ := HB.out.two
  have HS := Lib.hid (fun w => m9sub_any v n w)
  clear hr
  rcases two2_is v n (v - n) with h | h
  · have HF := Lib.hid (show subR v n = .ok (some (two1 v n (v - n))) by unfold subR; rw [if_pos h])
    rw [h] at HS
    generalize two1 v n (v - n) = U at *
    unfold Two at HS
    clear h
    go_enter Tryd.func35, Tryd.ntmps35
    go_wp2_with (first
      | (go_at_call 51; (with_reducible refine (HS.out _).mono ?_); rintro e w1 ⟨rfl, rfl⟩)
      | (go_at_call 50; (with_reducible refine (vsure_ok U _).mono ?_); rintro e w2 ⟨rfl, rfl⟩)
      | (go_at_call 39; (with_reducible refine (vamount_any U _ _ HA.out.self).mono ?_); rintro e w3 ⟨rfl, h3⟩; have R3 := Lib.hid h3; obtain ⟨⟨d0, d1⟩, e0, e1⟩ := (HT.out.rel h3).two))
    exact bodyPost_ret (v := TV (some U)) (by simp [results, Tryd.results35, go_sem, d0, d1]) rfl (TPost.yes HF.out rfl ((((HR.out.trans HA.out).trans R3.out).setCell (Nat.le_succ_of_le hz) _).setCell (Nat.le_succ_of_le hz) _))
  · have HF := Lib.hid (show subR v n = .error 10 by unfold subR; rw [if_neg (by omega), h])
    rw [h] at HS
    generalize two1 v n (v - n) = U at *
    unfold Two at HS
    clear h
    go_enter Tryd.func35, Tryd.ntmps35
    go_wp2_with (first
      | (go_at_call 51; (with_reducible refine (HS.out _).mono ?_); rintro e w1 ⟨rfl, rfl⟩)
      | (go_at_call 50; (with_reducible refine (vsure_no U _).mono ?_); rintro e w2 ⟨rfl, rfl⟩))
    exact ⟨rfl, TPost.no HF.out rfl (HR.out.trans HA.out)⟩
end Go.Proofs.YtpehlldgnbajjaaDoor

namespace Go.Proofs
open Go.Shelf
def Tryd.laysM171_ren : Go.Shelf.Ren := ⟨fun | 171 => 68 | 243 => 81 | 246 => 89 | 283 => 91 | 284 => 92 | 285 => 93 | 286 => 94 | 129 => 79 | 317 => 95 | 318 => 96 | 319 => 97 | 320 => 98 | 337 => 99 | 338 => 100 | n => n, fun | 3 => 3 | 9 => 9 | 2 => 2 | 4 => 4 | 171 => 124 | 0 => 0 | 53 => 111 | 37 => 68 | 5 => 5 | 173 => 126 | 212 => 129 | 51 => 109 | 20 => 20 | 213 => 130 | 46 => 90 | 232 => 131 | 233 => 132 | n => n, fun | 17 => 0 | 18 => 1 | 19 => 2 | n => n⟩
theorem Tryd.laysM171 : Go.Proofs.LaysM.n171 Tryd.prog Tryd.laysM171_ren := {
  mixed := by kernel_rfl
  f129 := Tryd.func79.trans (congrArg some (by kernel_rfl))
  f171 := Tryd.func68.trans (congrArg some (by kernel_rfl))
  f243 := Tryd.func81.trans (congrArg some (by kernel_rfl))
  f246 := Tryd.func89.trans (congrArg some (by kernel_rfl))
  f283 := Tryd.func91.trans (congrArg some (by kernel_rfl))
  f284 := Tryd.func92.trans (congrArg some (by kernel_rfl))
  f285 := Tryd.func93.trans (congrArg some (by kernel_rfl))
  f286 := Tryd.func94.trans (congrArg some (by kernel_rfl))
  f317 := Tryd.func95.trans (congrArg some (by kernel_rfl))
  f318 := Tryd.func96.trans (congrArg some (by kernel_rfl))
  f319 := Tryd.func97.trans (congrArg some (by kernel_rfl))
  f320 := Tryd.func98.trans (congrArg some (by kernel_rfl))
  f337 := Tryd.func99.trans (congrArg some (by kernel_rfl))
  f338 := Tryd.func100.trans (congrArg some (by kernel_rfl))
  t0 := Tryd.underlying0
  a0 := Tryd.isAgg0
  z0 := Tryd.sizeOf0
  v0 := Tryd.zeroValue0
  t2 := Tryd.underlying2
  a2 := Tryd.isAgg2
  z2 := Tryd.sizeOf2
  v2 := Tryd.zeroValue2
  t3 := Tryd.underlying3
  a3 := Tryd.isAgg3
  z3 := Tryd.sizeOf3
  v3 := Tryd.zeroValue3
  t4 := Tryd.underlying4
  a4 := Tryd.isAgg4
  z4 := Tryd.sizeOf4
  v4 := Tryd.zeroValue4
  t5 := Tryd.underlying5
  a5 := Tryd.isAgg5
  z5 := Tryd.sizeOf5
  v5 := Tryd.zeroValue5
  t9 := Tryd.underlying9
  a9 := Tryd.isAgg9
  z9 := Tryd.sizeOf9
  v9 := Tryd.zeroValue9
  t20 := Tryd.underlying20
  a20 := Tryd.isAgg20
  z20 := Tryd.sizeOf20
  v20 := Tryd.zeroValue20
  t37 := Tryd.underlying68
  a37 := Tryd.isAgg68
  z37 := Tryd.sizeOf68
  v37 := Tryd.zeroValue68
  t46 := Tryd.underlying90
  a46 := Tryd.isAgg90
  z46 := Tryd.sizeOf90
  v46 := Tryd.zeroValue90
  t51 := Tryd.underlying109
  a51 := Tryd.isAgg109
  z51 := Tryd.sizeOf109
  v51 := Tryd.zeroValue109
  t53 := Tryd.underlying111
  a53 := Tryd.isAgg111
  z53 := Tryd.sizeOf111
  v53 := Tryd.zeroValue111
  t171 := Tryd.underlying124
  a171 := Tryd.isAgg124
  z171 := Tryd.sizeOf124
  v171 := Tryd.zeroValue124
  t173 := Tryd.underlying126
  a173 := Tryd.isAgg126
  z173 := Tryd.sizeOf126
  v173 := Tryd.zeroValue126
  t212 := Tryd.underlying129
  a212 := Tryd.isAgg129
  z212 := Tryd.sizeOf129
  v212 := Tryd.zeroValue129
  t213 := Tryd.underlying130
  a213 := Tryd.isAgg130
  z213 := Tryd.sizeOf130
  t232 := Tryd.underlying131
  a232 := Tryd.isAgg131
  z232 := Tryd.sizeOf131
  v232 := Tryd.zeroValue131
  t233 := Tryd.underlying132
  a233 := Tryd.isAgg132
  z233 := Tryd.sizeOf132
  v233 := Tryd.zeroValue132
  g17 := by kernel_rfl
  g18 := by kernel_rfl
  g19 := by kernel_rfl
  i0 := by kernel_rfl
  i2 := by kernel_rfl
  i3 := by kernel_rfl
  i4 := by kernel_rfl
  i5 := by kernel_rfl
  i9 := by kernel_rfl
  i20 := by kernel_rfl
  i37 := by kernel_rfl
  i46 := by kernel_rfl
  i51 := by kernel_rfl
  i53 := by kernel_rfl
  i171 := by kernel_rfl
  i173 := by kernel_rfl
  i212 := by kernel_rfl
  i232 := by kernel_rfl
  i233 := by kernel_rfl
  m17 := by kernel_rfl
  m18 := by kernel_rfl
  m19 := by kernel_rfl }
open Go.RowKit Go.Sort Go.Lib in
/-- strconv.Itoa: "Itoa is equivalent to FormatInt(int64(i), 10).": i's DECIMAL NUMERAL ('Lib.itoa': a '-' where i is negative, then the digits), FOR EVERY int. The world behind the call: the world before it, new blocks behind the heap (the library's 'var a [24]byte'), draws. (LAID: no walk: one application.) -/
theorem Tryd.strconv_Itoa (n : Int) (h0 : -9223372036854775808 ≤ n) (h1 : n ≤ 9223372036854775807) (w : World) (htab : Lib.TabIs Tryd.prog w "internal/strconv.uint64pow10" .u64 Lib.pow10Tab) :
    Calls Tryd.prog 68 #[.int .i64 n] w fun e w' => e = .returned (.string ⟨(Lib.itoa n).toArray⟩) ∧ ∃ k os, w' = grow (w.drewN k) os := Any.strconv_Itoa Tryd.laysM171 n h0 h1 w htab
def Tryd.lays189_ren : Go.Shelf.Ren := ⟨fun | 189 => 49 | 125 => 60 | 257 => 59 | 128 => 78 | 129 => 79 | 294 => 69 | 295 => 70 | 296 => 71 | 297 => 72 | 298 => 73 | 299 => 74 | 216 => 75 | 300 => 76 | 301 => 77 | 328 => 82 | 329 => 83 | 330 => 84 | 331 => 85 | 332 => 86 | 215 => 87 | 343 => 90 | n => n, fun | 28 => 22 | 3 => 3 | 46 => 90 | 0 => 0 | 51 => 109 | 53 => 111 | 4 => 4 | 183 => 101 | 182 => 100 | 131 => 106 | 5 => 5 | 9 => 9 | 218 => 112 | 222 => 116 | 228 => 121 | 229 => 122 | n => n, fun | n => n⟩
theorem Tryd.lays189 : Go.Proofs.Lays.n189 Tryd.prog Tryd.lays189_ren := {
  mixed := by kernel_rfl
  f125 := Tryd.func60.trans (congrArg some (by kernel_rfl))
  f128 := Tryd.func78.trans (congrArg some (by kernel_rfl))
  f129 := Tryd.func79.trans (congrArg some (by kernel_rfl))
  f189 := Tryd.func49.trans (congrArg some (by kernel_rfl))
  f215 := Tryd.func87.trans (congrArg some (by kernel_rfl))
  f216 := Tryd.func75.trans (congrArg some (by kernel_rfl))
  f257 := Tryd.func59.trans (congrArg some (by kernel_rfl))
  f294 := Tryd.func69.trans (congrArg some (by kernel_rfl))
  f295 := Tryd.func70.trans (congrArg some (by kernel_rfl))
  f296 := Tryd.func71.trans (congrArg some (by kernel_rfl))
  f297 := Tryd.func72.trans (congrArg some (by kernel_rfl))
  f298 := Tryd.func73.trans (congrArg some (by kernel_rfl))
  f299 := Tryd.func74.trans (congrArg some (by kernel_rfl))
  f300 := Tryd.func76.trans (congrArg some (by kernel_rfl))
  f301 := Tryd.func77.trans (congrArg some (by kernel_rfl))
  f328 := Tryd.func82.trans (congrArg some (by kernel_rfl))
  f329 := Tryd.func83.trans (congrArg some (by kernel_rfl))
  f330 := Tryd.func84.trans (congrArg some (by kernel_rfl))
  f331 := Tryd.func85.trans (congrArg some (by kernel_rfl))
  f332 := Tryd.func86.trans (congrArg some (by kernel_rfl))
  f343 := Tryd.func90.trans (congrArg some (by kernel_rfl))
  t0 := Tryd.underlying0
  a0 := Tryd.isAgg0
  z0 := Tryd.sizeOf0
  v0 := Tryd.zeroValue0
  t3 := Tryd.underlying3
  a3 := Tryd.isAgg3
  z3 := Tryd.sizeOf3
  v3 := Tryd.zeroValue3
  t4 := Tryd.underlying4
  a4 := Tryd.isAgg4
  z4 := Tryd.sizeOf4
  v4 := Tryd.zeroValue4
  t5 := Tryd.underlying5
  a5 := Tryd.isAgg5
  z5 := Tryd.sizeOf5
  v5 := Tryd.zeroValue5
  t9 := Tryd.underlying9
  a9 := Tryd.isAgg9
  z9 := Tryd.sizeOf9
  v9 := Tryd.zeroValue9
  t28 := Tryd.underlying22
  a28 := Tryd.isAgg22
  z28 := Tryd.sizeOf22
  v28 := Tryd.zeroValue22
  t46 := Tryd.underlying90
  a46 := Tryd.isAgg90
  z46 := Tryd.sizeOf90
  v46 := Tryd.zeroValue90
  t51 := Tryd.underlying109
  a51 := Tryd.isAgg109
  z51 := Tryd.sizeOf109
  v51 := Tryd.zeroValue109
  t53 := Tryd.underlying111
  a53 := Tryd.isAgg111
  z53 := Tryd.sizeOf111
  v53 := Tryd.zeroValue111
  t131 := Tryd.underlying106
  a131 := Tryd.isAgg106
  z131 := Tryd.sizeOf106
  v131 := Tryd.zeroValue106
  t182 := Tryd.underlying100
  a182 := Tryd.isAgg100
  z182 := Tryd.sizeOf100
  v182 := Tryd.zeroValue100
  t183 := Tryd.underlying101
  a183 := Tryd.isAgg101
  z183 := Tryd.sizeOf101
  v183 := Tryd.zeroValue101
  t218 := Tryd.underlying112
  a218 := Tryd.isAgg112
  z218 := Tryd.sizeOf112
  v218 := Tryd.zeroValue112
  t222 := Tryd.underlying116
  a222 := Tryd.isAgg116
  z222 := Tryd.sizeOf116
  v222 := Tryd.zeroValue116
  t228 := Tryd.underlying121
  a228 := Tryd.isAgg121
  z228 := Tryd.sizeOf121
  v228 := Tryd.zeroValue121
  t229 := Tryd.underlying122
  a229 := Tryd.isAgg122
  z229 := Tryd.sizeOf122
  v229 := Tryd.zeroValue122 }
open Go.Sort Go.RowKit in
theorem Tryd.slices_Sort_int (blk off cap : Nat) (zs : List Int) (w : World) (hH : Holds (Value.int .i64) w blk off zs.toArray) (hblk : blk < w.heap.size) (hsz : zs.length < 4611686018427387904) :
    Calls Tryd.prog 49 #[.slice (some ⟨blk, off, none⟩) zs.length cap] w fun e w' =>
      e = .returned (.tuple #[]) ∧ ∃ n os, w' = grow (putRow (Value.int .i64) (Sort.ahead w n) blk off (zs.mergeSort fun x y => decide (x ≤ y)).toArray) os := Any.slices_Sort_int Tryd.lays189 blk off cap zs w hH hblk hsz
end Go.Proofs

namespace Go.Proofs.YtpehlldgnbajjaaDoor
open Go.RowKit Go.Lib
set_option linter.unusedVariables false
set_option linter.unusedSimpArgs false

theorem up_pair {l : List Int} (h : l.Pairwise (fun a b => decide (a ≤ b) = true)) : Up l := by
  induction h with
  | nil => trivial
  | cons h _ ih => exact ⟨fun b hb => of_decide_eq_true (h b hb), ih⟩
theorem srt_self {l : List Int} (h : Up l) : srt l = l := by
  induction l with
  | nil => rfl
  | cons a t ih => rw [srt, ih h.2]; cases t with
    | nil => rfl
    | cons b t => unfold ins; rw [if_pos (h.1 b (List.mem_cons_self ..))]
theorem merge_srt (l : List Int) : (l.mergeSort fun x y => decide (x ≤ y)) = srt l := by
  have h1 : (l.mergeSort fun x y => decide (x ≤ y)).Perm l := List.mergeSort_perm ..
  have h2 : Up (l.mergeSort fun x y => decide (x ≤ y)) := up_pair (List.pairwise_mergeSort (by intro a b c h1 h2; simp only [decide_eq_true_eq] at *; omega) (by intro a b; simp only [Bool.or_eq_true, decide_eq_true_eq]; omega) l)
  rw [← srt_perm h1, srt_self h2]
/-- A row of numbers of the call's own. -/
def NumOwn (w : World) (base : Nat) (v : Value) (xs : List Int) : Prop := w.ownsRow base 3 1 v xs.length (xs.map (Value.int .i64))
theorem NumOwn.nil (w : World) (base : Nat) : NumOwn w base (.slice none 0 0) [] := World.ownsRow_nil _ _ _ _
theorem NumOwn.rel {w w' : World} {base : Nat} {v : Value} {xs : List Int} (h : NumOwn w base v xs) (hr : Rel w w') : NumOwn w' base v xs := own_rel h hr
theorem NumOwn.more {w1 : World} {base g cap : Nat} {xs : List Int} {n : Int}
    (h : w1.ownsRow base 3 1 (.slice (some ⟨g, 0, none⟩) (xs.length + 1) cap) (xs.length + 1) (xs.map (Value.int .i64) ++ [.int .i64 n])) : NumOwn w1 base (.slice (some ⟨g, 0, none⟩) (xs.length + 1) cap) (xs ++ [n]) := by
  unfold NumOwn
  rw [List.length_append, List.map_append]; exact h
theorem num_info : (Tryd.prog.info? 3).map (fun i => (i.zero, i.size, i.bytes)) = some (some (.int .i64 0), 1, 8) := by kernel_rfl
theorem num_one (n : Int) : ∀ u ∈ [Value.int .i64 n], u.oneCell' = true := by
  intro u hu
  simp only [List.mem_cons, List.not_mem_nil, or_false] at hu
  subst hu; rfl
/-- A row of one's own that is not empty. -/
theorem NumOwn.some9 {w : World} {base n c : Nat} {A : Option Addr} {xs : List Int} (h : NumOwn w base (.slice A n c) xs) (hn : n = xs.length) (h0 : xs ≠ []) : ∃ g, A = some ⟨g, 0, none⟩ ∧ base ≤ g ∧ g < w.heap.size ∧ Sort.Holds (Value.int .i64) w g 0 xs.toArray := by
  have h : w.ownsRow base 3 1 (.slice A n c) xs.length (xs.map (Value.int .i64)) := h
  rcases h.2 with ⟨_, h1⟩ | ⟨g, cap, cur, hv, hb, hh, _⟩
  · exact absurd (List.length_eq_zero_iff.1 h1) h0
  · have hA : A = some ⟨g, 0, none⟩ := by injection hv
    subst hA
    have hc := h.cells (g := g) rfl
    refine ⟨g, rfl, hb, Bk.lt (t := 3) hh, fun j hj => ⟨?_, Bk.frozen (t := 3) hh _⟩⟩
    have hj' : j < xs.length := by simpa using hj
    have := hc j (.int .i64 xs[j]) (by rw [List.getElem?_map, List.getElem?_eq_getElem hj']; rfl)
    rw [addr_at] at this
    rw [this]
    simp [hj']
/-- What the sort leaves. -/
theorem sorted_row {w0 w : World} {g n : Nat} {xs : List Int} (os : Array Obj) (hr : Rel w0 w) (hg : w0.heap.size ≤ g) (hgl : g < w.heap.size) (hh : Sort.Holds (Value.int .i64) w g 0 xs.toArray) :
    Rel w0 (Sort.grow (Sort.putRow (Value.int .i64) (Sort.ahead w n) g 0 (xs.mergeSort fun x y => decide (x ≤ y)).toArray) os) ∧
    ∀ j v, (srt xs)[j]? = some v → (Sort.grow (Sort.putRow (Value.int .i64) (Sort.ahead w n) g 0 (xs.mergeSort fun x y => decide (x ≤ y)).toArray) os).cell? ⟨g, j, none⟩ = some (.int .i64 v) := by
  rw [merge_srt]
  have hh' : Sort.Holds (Value.int .i64) (Sort.ahead w n) g 0 xs.toArray := hh
  have hs : (srt xs).toArray.size = xs.toArray.size := by simp [srt_len]
  have hp := Sort.holds_putRow _ _ _ _ _ (srt xs).toArray hh' hs
  have hz : (Sort.putRow (Value.int .i64) (Sort.ahead w n) g 0 (srt xs).toArray).heap.size = w.heap.size := Sort.size_putRow ..
  have hq := Sort.holds_grow (Value.int .i64) _ os g 0 _ (by rw [hz]; exact hgl) hp
  refine ⟨?_, fun j v hv => ?_⟩
  · have h1 : Rel w0 (Sort.putRow (Value.int .i64) (Sort.ahead w n) g 0 (srt xs).toArray) := by
      refine ⟨hr.1, ⟨hr.2.os, hr.2.tape, hr.2.output, by rw [hz]; exact hr.2.size, fun k hk => ?_⟩⟩
      have : k ≠ g := by omega
      refine Eq.trans ?_ (hr.2.block k hk)
      show (w.heap.modify g _)[k]? = w.heap[k]?
      rw [Array.getElem?_modify, if_neg (Ne.symm this)]
    exact h1.grow os
  · have hl : j < (srt xs).length := (List.getElem?_eq_some_iff.1 hv).1
    have := (hq j (by simpa using hl)).1
    rw [Nat.zero_add] at this
    rw [this]
    obtain ⟨_, e⟩ := List.getElem?_eq_some_iff.1 hv
    subst e
    simp [hl]
end Go.Proofs.YtpehlldgnbajjaaDoor

namespace Go.Proofs.YtpehlldgnbajjaaDoor
open Go.RowKit Go.Lib
set_option linter.unusedVariables false
set_option linter.unusedSimpArgs false

theorem off_box (w : World) (s : ByteArray) (p : Int) : Bk (w.alloc (.cells #[.string s, .int .i64 p] 37)) w.heap.size 37 #[.string s, .int .i64 p] := Bk.new w _ _
set_option maxRecDepth 100000 in
set_option maxHeartbeats 4000000 in
theorem vfrom_any (nm : List UInt8) (A : Option Addr) (c : Nat) (os : List Of) (w0 w : World) (hr : Rel w0 w) (ho : OffArg w A c os) :
    Calls Tryd.prog 28 #[.slice A os.length c, .string (B nm)] w fun e w' => e = .returned (TV (fromO os nm)) ∧ Rel w0 w' := by
  have HR := Lib.hid hr
  have hz := hr.size
  have HT := Lib.hid (Bk.new w 52 #[.int .i64 0, .bool false])
  have HA := Lib.hid (hr.self.alloc (.cells #[.int .i64 0, .bool false] 52))
  have HOf := Lib.hid ho.2.2.2
  have hl : os.length ≤ 9223372036854775807 := by have := ho.1; have := ho.2.1; unfold maxLen at this; omega
  obtain ⟨W, hW⟩ : ∃ W, w.alloc (.cells #[.int .i64 0, .bool false] 52) = W := ⟨_, rfl⟩
  rw [hW] at HT HA
  obtain ⟨X, hX⟩ : ∃ X, B nm = X := ⟨_, rfl⟩
  have HX := Lib.hid hX
  rw [hX]
  clear ho hX hr
  go_enter Tryd.func28, Tryd.ntmps28
  go_wp2_with (fail)
  go_loopw [9] (fun i wr => ∃ j : Nat, j ≤ os.length ∧ i = .int .i64 (j : Int) ∧ Hid (∀ k (hk : k < os.length), k < j → os[k].1 ≠ nm) ∧ Rel W wr) (fun i _ => os.length - (RowKit.intOf i).toNat)
  case atStart => exact ⟨0, by omega, rfl, Lib.hid (fun k _ hk => absurd hk (by omega)), HA.out.right2⟩
  case round =>
    obtain ⟨i, hi, rfl, HN, hRw⟩ := hrel
    have HRw := Lib.hid hRw
    by_cases hlt : i < os.length
    · obtain ⟨g, off, s, p, rfl, c0, c1, ho⟩ := offs_at HOf.out (HA.out.trans hRw) i hlt
      obtain ⟨Y, hY⟩ : ∃ Y, B s = Y := ⟨_, rfl⟩
      have HO := Lib.hid ho
      rw [hY] at c0
      have HY := Lib.hid hY
      have HBx := Lib.hid (off_box wr Y p)
      have HAx := Lib.hid (hRw.self.alloc (.cells #[.string Y, .int .i64 p] 37))
      obtain ⟨V, hV⟩ : ∃ V, wr.alloc (.cells #[.string Y, .int .i64 p] 37) = V := ⟨_, rfl⟩
      rw [hV] at HBx HAx
      obtain ⟨⟨x0, x1⟩, _⟩ := HBx.out.two
      clear ho hY hRw
      by_cases he : Y = X
      · have k1 := list_of.2 he
        have HV := Lib.hid (show fromO os nm = some p by
          have h1 : os[i].1 = nm := by rw [HO.out]; show s = nm; rw [← B_list s, ← B_list nm, HY.out, HX.out, he]
          rw [from_hit hlt h1 HN.out, HO.out])
        clear he
        go_wp2_with (go_at_call 39; (with_reducible refine (vamount_any p _ _ HAx.out.self).mono ?_); rintro e w3 ⟨rfl, h3⟩; have R3 := Lib.hid h3; obtain ⟨⟨d0, d1⟩, e0, e1⟩ := (HT.out.rel ((HRw.out.trans HAx.out).trans h3)).two)
        rw [HV.out]
        exact bodyPost_ret (v := TV (some p)) (by simp [results, Tryd.results28, go_sem, d0, d1]) rfl ⟨rfl, ((((HR.out.trans HA.out).trans (HRw.out.trans HAx.out)).trans R3.out).setCell hz _).setCell hz _⟩
      · have k1 := list_ne he
        have HN2 : Hid (∀ k (hk : k < os.length), k < i + 1 → os[k].1 ≠ nm) := Lib.hid (fun k hk hki => by
          by_cases e : k = i
          · subst e
            rw [HO.out]
            show s ≠ nm
            intro e; subst e; exact he (HY.out.symm.trans HX.out)
          · exact HN.out k hk (by omega))
        clear he
        go_wp2_with (fail)
        go_roundw
        case rel => exact ⟨i + 1, by omega, by go_num, HN2, HRw.out.trans HAx.out⟩
        case measure => simp [RowKit.intOf]; omega
    · obtain rfl : i = os.length := by omega
      have HV := Lib.hid (show fromO os nm = none from from_none fun k hk => HN.out k hk hk)
      obtain ⟨⟨d0, d1⟩, e0, e1⟩ := (HT.out.rel hRw).two
      go_wp2_with (fail)
      rw [HV.out]
      exact bodyPost_ret (v := TV none) (by simp [results, Tryd.results28, go_sem, d0, d1]) rfl ⟨rfl, (((HR.out.trans HA.out).trans HRw.out).setCell hz _).setCell hz _⟩
end Go.Proofs.YtpehlldgnbajjaaDoor

namespace Go.Proofs.YtpehlldgnbajjaaDoor
open Go.RowKit Go.Lib
set_option linter.unusedVariables false
set_option linter.unusedSimpArgs false

theorem num_new (w : World) (n : Int) : ∀ j u, [Value.int .i64 n][j]? = some u → (w.alloc (.cells #[.int .i64 n] 3)).cell? ((⟨w.heap.size, 0, none⟩ : Addr).add j) = some u := World.news_of_block (Bk.new w 3 #[.int .i64 n])
theorem NumOwn.slice {w : World} {base : Nat} {v : Value} {xs : List Int} (h : NumOwn w base v xs) : ∃ A c, v = .slice A xs.length c := by
  have h : w.ownsRow base 3 1 v xs.length (xs.map (Value.int .i64)) := h
  obtain ⟨A, c, e, _⟩ := own_slice h
  exact ⟨A, c, e⟩
theorem prices_take (os : List Of) (i : Nat) (h : i < os.length) : prices (os.take (i + 1)) = prices (os.take i) ++ [os[i].2] := by
  unfold prices
  rw [List.take_succ_eq_append_getElem h, List.map_append]; rfl
theorem prices_tlen (os : List Of) (i : Nat) (h : i ≤ os.length) : (prices (os.take i)).length = i := by
  unfold prices; rw [List.length_map, List.length_take]; omega
set_option maxRecDepth 100000 in
set_option maxHeartbeats 4000000 in
theorem vranked_any (n : Nat) (hn : n ≤ 100) (A : Option Addr) (c : Nat) (os : List Of) (h8 : os.length ≤ 8) (w0 w : World) (hr : Rel w0 w) (ho : OffArg w A c os) :
    Calls Tryd.prog 34 #[.slice A os.length c, .int .i64 (n : Int)] w fun e w' => e = .returned (TV (rk os n)) ∧ Rel w0 w' := by
  have HR := Lib.hid hr
  have hz := hr.size
  obtain ⟨i0, hi0, hz0, hz1, hz2⟩ := info_parts num_info
  have HT := Lib.hid (Bk.new w 52 #[.int .i64 0, .bool false])
  have HA := Lib.hid (hr.self.alloc (.cells #[.int .i64 0, .bool false] 52))
  have HOf := Lib.hid ho.2.2.2
  have hsz : w.heap.size ≤ (w.alloc (.cells #[.int .i64 0, .bool false] 52)).heap.size := by rw [World.size_alloc]; omega
  obtain ⟨W, hW⟩ : ∃ W, w.alloc (.cells #[.int .i64 0, .bool false] 52) = W := ⟨_, rfl⟩
  rw [hW] at HT HA hsz
  obtain ⟨⟨d0, d1⟩, e0, e1⟩ := HT.out.two
  clear ho hr
  by_cases hge : os.length ≤ n
  · have HV := Lib.hid (show rk os n = none by unfold rk; rw [List.getElem?_eq_none]; rw [srt_len, prices_len]; exact hge)
    have t1 : decide ((os.length : Int) ≤ (n : Int)) = true := decide_eq_true (by omega)
    go_enter Tryd.func34, Tryd.ntmps34
    rw [HV.out]
    go_wp2_with (fail)
    exact bodyPost_ret (v := TV none) (by simp [results, Tryd.results34, go_sem, d0, d1]) rfl ⟨rfl, ((HR.out.trans HA.out).setCell hz _).setCell hz _⟩
  · have t1 : decide ((os.length : Int) ≤ (n : Int)) = false := decide_eq_false (by omega)
    have hlt0 : n < os.length := by omega
    obtain ⟨v, hv⟩ : ∃ v, rk os n = some v := by
      have : n < (srt (prices os)).length := by rw [srt_len, prices_len]; exact hlt0
      exact ⟨_, List.getElem?_eq_getElem this⟩
    have HV := Lib.hid hv
    have hN : (n : Int) < (os.length : Int) := by omega
    clear hv d0 d1 e0 e1
    go_enter Tryd.func34, Tryd.ntmps34
    rw [HV.out]
    go_wp2_with (fail)
    go_loopw [5, 15] (fun ps i wr => ∃ j : Nat, j ≤ os.length ∧ i = .int .i64 (j : Int) ∧ NumOwn wr W.heap.size ps (prices (os.take j)) ∧ Rel W wr) (fun _ i _ => os.length - (RowKit.intOf i).toNat)
    case atStart => exact ⟨0, by omega, rfl, NumOwn.nil _ _, HA.out.right2⟩
    case round =>
      obtain ⟨i, hi, rfl, hown, hRw⟩ := hrel
      have HRw := Lib.hid hRw
      by_cases hlt : i < os.length
      · obtain ⟨A2, c2, rfl⟩ := hown.slice
        obtain ⟨g, off, s, p, rfl, c0, c1, ho⟩ := offs_at HOf.out (HA.out.trans hRw) i hlt
        obtain ⟨Y, hY⟩ : ∃ Y, B s = Y := ⟨_, rfl⟩
        rw [hY] at c0
        have HP := Lib.hid (show prices (os.take (i + 1)) = prices (os.take i) ++ [p] by rw [prices_take os i hlt, ho])
        have hpl := prices_tlen os i hi
        have HBx := Lib.hid (off_box wr Y p)
        have HAx := Lib.hid (hRw.self.alloc (.cells #[.string Y, .int .i64 p] 37))
        obtain ⟨V, hV⟩ : ∃ V, wr.alloc (.cells #[.string Y, .int .i64 p] 37) = V := ⟨_, rfl⟩
        rw [hV] at HBx HAx
        obtain ⟨⟨x0, x1⟩, _⟩ := HBx.out.two
        have HOV := Lib.hid (hown.rel HAx.out)
        generalize prices (os.take i) = ps at *
        have hb : W.heap.size ≤ V.heap.size := (hRw.trans HAx.out).size
        have HL := Lib.hid hpl
        have hps : ps.length ≤ 8 := by omega
        clear ho hY hRw hown hpl
        go_wp2_with (at_builtin; (refine wpList_append_lies _ rfl _ _ 22 rfl W.heap.size 3 i0 (.int .i64 0) 1 8 Tryd.underlying22 hi0 hz0 hz1 hz2 rfl (by decide) _ ps.length (ps.map (Value.int .i64)) rfl ((show V.ownsRow W.heap.size 3 1 (.slice A2 ps.length c2) ps.length (ps.map (Value.int .i64)) from HOV.out).alloc _) ⟨V.heap.size, 0, none⟩ 1 1 [.int .i64 p] rfl rfl (num_new V p) (num_one p) (by decide) (by unfold maxLen; omega) (by omega) (by simp; omega) _ rfl ?_); intro g1 cap w1 hown1 hgrow hat hlt1)
        have R1 : Rel W w1 := ((HRw.out.trans HAx.out).alloc _).grown hgrow (fun k hk => ((show V.ownsRow W.heap.size 3 1 (.slice A2 ps.length c2) ps.length (ps.map (Value.int .i64)) from HOV.out).lt k hk).1)
        have HO1 := Lib.hid (NumOwn.more hown1)
        have HL2 := Lib.hid (show ps.length + 1 = i + 1 by rw [HL.out])
        go_roundw
        case rel => exact ⟨i + 1, by omega, by go_num, by rw [HP.out]; exact HO1.out, R1⟩
        case measure => simp [RowKit.intOf]; omega
      · obtain rfl : i = os.length := by omega
        rw [List.take_length] at hown
        obtain ⟨A2, c2, rfl⟩ := hown.slice
        have HOwn := Lib.hid hown
        have hpl := prices_len os
        have hv2 := HV.out
        unfold rk at hv2
        have hne : prices os ≠ [] := fun e => by rw [e] at hpl; simp at hpl; omega
        obtain ⟨g, rfl, hb, hgl, hh⟩ := NumOwn.some9 HOwn.out rfl hne
        have HSt := Lib.hid (fun (os' : Array Obj) (m : Nat) => sorted_row (n := m) os' hRw hb hgl hh)
        have HSort := Lib.hid (Tryd.slices_Sort_int g 0 c2 (prices os) wr hh hgl (by rw [hpl]; omega))
        have HV2 := Lib.hid hv2
        have hN2 : n < (prices os).length := by omega
        have hN3 : (n : Int) < ((prices os).length : Int) := by omega
        clear hv2 hh hRw HOwn hown hpl hne
        go_wp2_with (first
          | (go_at_call 49; (with_reducible refine HSort.out.mono ?_); rintro e w1 ⟨rfl, m, os', rfl⟩; have R1 := Lib.hid (HSt.out os' m).1; have cv := (HSt.out os' m).2 n v HV2.out; obtain ⟨w1, hw1⟩ : ∃ w1, Sort.grow (Sort.putRow (Value.int .i64) (Sort.ahead wr m) g 0 ((prices os).mergeSort fun x y => decide (x ≤ y)).toArray) os' = w1 := ⟨_, rfl⟩; rw [hw1] at R1 cv ⊢; clear hw1)
          | (go_at_call 39; (with_reducible refine (vamount_any v _ _ R1.out.self).mono ?_); rintro e w3 ⟨rfl, h3⟩; have R3 := Lib.hid h3; obtain ⟨⟨d0, d1⟩, e0, e1⟩ := (HT.out.rel (R1.out.trans h3)).two))
        exact bodyPost_ret (v := TV (some v)) (by simp [results, Tryd.results34, go_sem, d0, d1]) rfl ⟨rfl, ((((HR.out.trans HA.out).trans R1.out).trans R3.out).setCell hz _).setCell hz _⟩
end Go.Proofs.YtpehlldgnbajjaaDoor
