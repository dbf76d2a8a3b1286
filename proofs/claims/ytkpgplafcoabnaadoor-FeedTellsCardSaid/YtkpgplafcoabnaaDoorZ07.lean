/- What the landed package feed asks of the library: a text parted by blanks; five texts joined; whether one of five is a blank; The landed package feed: a text's fields; The landed package feed: the line that fields are read as; The landed package feed: where two rows of fields are unlike first. -/
import Derived.Test.YtkpgplafcoabnaaDoorZL
import Derived.Test.YtkpgplafcoabnaaDoorZ00
import Derived.Test.YtkpgplafcoabnaaDoorZ01
import Derived.Test.YtkpgplafcoabnaaDoorZ02
import Derived.Test.YtkpgplafcoabnaaDoorZ03
import Derived.Test.YtkpgplafcoabnaaDoorZ04
import Derived.Test.YtkpgplafcoabnaaDoorZ05
import Derived.Test.YtkpgplafcoabnaaDoorZ06
namespace Go.Proofs.YtkpgplafcoabnaaDoor
open Go.RowKit Go.Lib
set_option linter.unusedVariables false
set_option linter.unusedSimpArgs false
theorem idx32_no {l : List UInt8} (h : (32 : UInt8) ∉ l) : Lib.indexByte l 32 = -1 := by
  induction l with
  | nil => rfl
  | cons b t ih =>
    simp only [List.mem_cons, not_or] at h
    unfold Lib.indexByte
    rw [ih h.2, if_neg (by simpa using fun e => h.1 e.symm)]
    rfl
theorem idx32 {a : List UInt8} (h : (32 : UInt8) ∉ a) (t : List UInt8) : Lib.indexByte (a ++ 32 :: t) 32 = (a.length : Int) := by
  induction a with
  | nil => rfl
  | cons b r ih =>
    simp only [List.mem_cons, not_or] at h
    rw [List.cons_append, Lib.indexByte, ih h.2, if_neg (by simpa using fun e => h.1 e.symm), if_neg (by simp <;> omega)]
    simp
theorem part32 (s : List UInt8) (h : (32 : UInt8) ∈ s) : ∃ a t, (32 : UInt8) ∉ a ∧ s = a ++ 32 :: t := by
  induction s with
  | nil => cases h
  | cons b t ih =>
    by_cases hb : b = 32
    · exact ⟨[], t, by simp, by rw [hb]; rfl⟩
    · obtain ⟨a, u, h1, h2⟩ := ih (by
        rcases List.mem_cons.1 h with e | h'
        · exact absurd e.symm hb
        · exact h')
      exact ⟨b :: a, u, by simp only [List.mem_cons, not_or]; exact ⟨fun e => hb e.symm, h1⟩, by rw [h2]; rfl⟩
theorem blank_split (m : Nat) : ∀ s : List UInt8, s.length ≤ m → Lib.splitK [32] 0 (Lib.count s [32]) s = fieldsF s := by
  induction m with
  | zero =>
    intro s hs
    obtain rfl : s = [] := List.length_eq_zero_iff.1 (by omega)
    rfl
  | succ m ih =>
    intro s hs
    by_cases h : (32 : UInt8) ∈ s
    · obtain ⟨a, t, ha, rfl⟩ := part32 s h
      have hi : Lib.index (a ++ 32 :: t) [32] = (a.length : Int) := by rw [Lib.index_one]; exact idx32 ha t
      have hc : Lib.count (a ++ 32 :: t) [32] = Lib.count t [32] + 1 := by
        rw [Lib.count_hit (by simp) hi]
        rw [show (a ++ 32 :: t).drop (a.length + [(32 : UInt8)].length) = t by rw [List.length_singleton, List.drop_append]; simp]
        omega
      rw [hc, Lib.splitK, hi]
      rw [if_neg (by simp <;> omega), fields_app ha]
      congr 1
      · simp
      · rw [show ((a.length : Int).toNat + [(32 : UInt8)].length) = a.length + 1 by simp, show (a ++ 32 :: t).drop (a.length + 1) = t by rw [List.drop_append]; simp]
        exact ih t (by simp only [List.length_append, List.length_cons] at hs; omega)
    · have hi : Lib.index s [32] = -1 := by rw [Lib.index_one]; exact idx32_no h
      rw [Lib.count_miss hi, Lib.splitK, fields_one h]
theorem count_split (s : List UInt8) : Lib.count s [32] + 1 = (fieldsF s).length := by
  rw [← blank_split s.length s (Nat.le_refl _)]
  have h := Lib.splitB_all (⟨#[32]⟩ : ByteArray) (by decide) 0 _ (B s) rfl
  have h2 := Lib.splitB_data (⟨#[32]⟩ : ByteArray) 0 (Lib.countB (B s) ⟨#[32]⟩) (B s)
  have e : Lib.countB (B s) ⟨#[32]⟩ = Lib.count s [32] := by show Lib.count (B s).data.toList [32] = _; rw [B_list]
  rw [B_list] at h2
  rw [← e]
  have h3 := congrArg List.length h2
  rw [List.length_map, h] at h3
  exact h3
theorem split_cells (s : List UInt8) : (Lib.splitB (⟨#[32]⟩ : ByteArray) 0 (Lib.countB (B s) ⟨#[32]⟩) (B s)).map Value.string = (fieldsF s).map (fun x => Value.string (B x)) := by
  have h2 := Lib.splitB_data (⟨#[32]⟩ : ByteArray) 0 (Lib.countB (B s) ⟨#[32]⟩) (B s)
  have e : Lib.countB (B s) ⟨#[32]⟩ = Lib.count s [32] := by show Lib.count (B s).data.toList [32] = _; rw [B_list]
  rw [B_list] at h2
  rw [e] at h2 ⊢
  rw [show (⟨#[32]⟩ : ByteArray).data.toList = [32] from rfl, blank_split s.length s (Nat.le_refl _)] at h2
  rw [← h2, List.map_map]
  refine List.map_congr_left (fun x _ => ?_)
  show Value.string x = Value.string (B x.data.toList)
  rw [B_of]
set_option maxHeartbeats 1000000 in
/-- strings.Split at a blank (its text of fewer than 2^32 bytes): one row of the fields. -/
theorem lsplit_any (s : List UInt8) (hs : s.length ≤ 1000000) (w : World) :
    Calls Tryd.prog 44 #[.string (B s), .string ⟨#[32]⟩] w fun e w' => e = .returned (.slice (some ⟨w.heap.size, 0, none⟩) (fieldsF s).length (fieldsF s).length) ∧ w' = w.alloc (.cells ((fieldsF s).map (fun x => Value.string (B x))).toArray 9) := by
  have hz := B_size s
  have hL := count_split s
  have hle := Lib.countB_le (⟨#[32]⟩ : ByteArray) (by decide) (B s).size (B s) (Nat.le_refl _)
  have e : Lib.countB (B s) ⟨#[32]⟩ = Lib.count s [32] := by show Lib.count (B s).data.toList [32] = _; rw [B_list]
  have c := Any.strings_genSplit_core Tryd.lays221 (by kernel_rfl) (B s) ⟨#[32]⟩ 0 (-1) (Lib.countB (B s) ⟨#[32]⟩ + 1) w (by omega) (by decide) (Nat.zero_le _)
    (fun x cc _ => by
      have := Tryd.strings_Index_one x 32 (w.alloc (.cells cc 9))
      refine this.mono fun e w' ⟨he, hw⟩ => ⟨?_, hw⟩
      rw [he]
      show _ = Ending.returned (Value.int .i64 (Lib.index x.data.toList [32]))
      rw [Lib.index_one])
    ((Tryd.strings_Count_one (B s) 32 w).mono fun e w' ⟨he, hw⟩ => ⟨by
      rw [he]
      show _ = Ending.returned (Value.int .i64 ((Lib.count (B s).data.toList [32] : Nat) : Int))
      rw [Lib.count_one]
      rfl, hw⟩) (by decide) (by decide) (by rw [if_pos (by decide)]; omega)
  have hlen := Lib.splitB_all (⟨#[32]⟩ : ByteArray) (by decide) 0 _ (B s) rfl
  rw [Nat.add_sub_cancel, hlen] at c
  have e2 : Lib.cellsOf (Lib.splitB ⟨#[32]⟩ 0 (Lib.countB (B s) ⟨#[32]⟩) (B s)) (Lib.countB (B s) ⟨#[32]⟩ + 1) = ((fieldsF s).map (fun x => Value.string (B x))).toArray := by
    rw [← split_cells, ← hlen]; exact Lib.cellsOf_full _
  rw [e2, e, hL] at c
  obtain ⟨L, hLL⟩ : ∃ L, (fieldsF s).length = L := ⟨_, rfl⟩
  obtain ⟨C, hC⟩ : ∃ C, ((fieldsF s).map (fun x => Value.string (B x))).toArray = C := ⟨_, rfl⟩
  rw [hLL, hC] at c
  rw [hLL, hC]
  have HC := Lib.hid (show Calls Tryd.prog 55 #[.string (B s), .string ⟨#[32]⟩, .int .i64 0, .int .i64 (-1)] w _ from c)
  clear c e2 hlen e hle hL hLL hC hz
  go_enter Tryd.func44, Tryd.ntmps44
  go_wp2_with (go_at_call 55; (with_reducible refine HC.out.mono ?_); rintro e w' ⟨rfl, rfl⟩)
  go_ret
  exact ⟨rfl, rfl⟩
theorem B_inj {x y : List UInt8} : B x = B y ↔ x = y := ⟨fun h => by have := congrArg (fun b : ByteArray => b.data.toList) h; simpa [B_list] using this, fun h => by rw [h]⟩
theorem contains_none (l : List (List UInt8)) : Lib.containsS (l.map B) ⟨#[32]⟩ = l.any fun x => decide (x = noneL) := by
  rw [Bool.eq_iff_iff, Lib.containsS_iff, List.any_eq_true]
  constructor
  · intro h
    obtain ⟨x, hx, e⟩ := List.mem_map.1 h
    exact ⟨x, hx, decide_eq_true (B_inj.1 (e.trans rfl))⟩
  · rintro ⟨x, hx, e⟩
    exact List.mem_map.2 ⟨x, hx, by rw [of_decide_eq_true e]; rfl⟩
/-- slices.Contains of a line's fields. -/
theorem lcontains_any (a b c d e : List UInt8) (g : Nat) (t : TypeId) (w : World) (h : Bk w g t #[.string (B a), .string (B b), .string (B c), .string (B d), .string (B e)]) :
    Calls Tryd.prog 24 #[.slice (some ⟨g, 0, none⟩) 5 5, .string ⟨#[32]⟩] w fun r w' => r = .returned (.bool ([a, b, c, d, e].any fun x => decide (x = noneL))) ∧ w = w' := by
  rw [← contains_none]
  refine (Tryd.slices_Contains_string g 0 5 5 ([a, b, c, d, e].map B) ⟨#[32]⟩ w (Nat.le_refl _) (by decide) (fun j hj => ?_)).mono fun r w' ⟨hr, hw⟩ => ⟨by rw [hr]; rfl, hw.symm⟩
  obtain ⟨⟨c0, c1, c2, c3, c4⟩, _⟩ := five_of h
  have ways : j = 0 ∨ j = 1 ∨ j = 2 ∨ j = 3 ∨ j = 4 := by simp only [List.map_cons, List.map_nil, List.length_cons, List.length_nil] at hj; omega
  rcases ways with rfl | rfl | rfl | rfl | rfl
  · exact c0
  · exact c1
  · exact c2
  · exact c3
  · exact c4
/-- strings.Join of a line's fields. -/
theorem ljoin_any (a b c d e : List UInt8) (hl : (joinF [a, b, c, d, e]).length ≤ 1000000) (g : Nat) (t : TypeId) (w0 w : World) (hr : Rel w0 w) (h : Bk w g t #[.string (B a), .string (B b), .string (B c), .string (B d), .string (B e)]) :
    Calls Tryd.prog 21 #[.slice (some ⟨g, 0, none⟩) 5 5, .string ⟨#[32]⟩] w fun r w' => r = .returned (.string (B (joinF [a, b, c, d, e]))) ∧ Rel w0 w' := by
  have hj : Lib.join (([a, b, c, d, e].map B).map (·.data.toList)) (⟨#[32]⟩ : ByteArray).data.toList = joinF [a, b, c, d, e] := by
    simp [Lib.join, List.intercalate, joinF, B_list]
  refine (Tryd.strings_Join g 0 5 ([a, b, c, d, e].map B) ⟨#[32]⟩ w (fun j x hj => ?_) h.lt (by simp) (by simp) (by rw [hj]; omega)).mono fun r w' ⟨h1, h2⟩ => ⟨by rw [h1, hj]; rfl, hr.step h2⟩
  obtain ⟨⟨c0, c1, c2, c3, c4⟩, _⟩ := five_of h
  have hj2 : j < 5 := by
    rcases Nat.lt_or_ge j 5 with h' | h'
    · exact h'
    · rw [List.getElem?_eq_none (by simpa using h')] at hj; cases hj
  have ways : j = 0 ∨ j = 1 ∨ j = 2 ∨ j = 3 ∨ j = 4 := by omega
  rcases ways with rfl | rfl | rfl | rfl | rfl <;> (simp only [List.map_cons, List.map_nil, List.getElem?_cons_zero, List.getElem?_cons_succ, Option.some.injEq] at hj; subst hj)
  · exact c0
  · exact c1
  · exact c2
  · exact c3
  · exact c4
end Go.Proofs.YtkpgplafcoabnaaDoor

namespace Go.Proofs.YtkpgplafcoabnaaDoor
open Go.RowKit Go.Lib
set_option linter.unusedVariables false
set_option linter.unusedSimpArgs false
theorem lsplit_rel (s : List UInt8) (hs : s.length ≤ 1000000) (w0 w : World) (hr : Rel w0 w) :
    Calls Tryd.prog 44 #[.string (B s), .string ⟨#[32]⟩] w fun e w' => e = .returned (.slice (some ⟨w.heap.size, 0, none⟩) (fieldsF s).length (fieldsF s).length) ∧ Bk w' w.heap.size 9 ((fieldsF s).map (fun x => Value.string (B x))).toArray ∧ Rel w0 w' :=
  (lsplit_any s hs w).mono fun e w' ⟨h1, h2⟩ => ⟨h1, by rw [h2]; exact Bk.new _ _ _, by rw [h2]; exact hr.alloc _⟩
set_option maxRecDepth 100000 in
set_option maxHeartbeats 4000000 in
theorem fparted_no (s : List UInt8) (hs : s.length ≤ 1000000) (h5 : (fieldsF s).length ≠ 5) (w0 w : World) (hr : Rel w0 w) :
    Calls Tryd.prog 25 #[.string (B s)] w fun r w' => r = .returned (.tuple #[.agg #[.string ⟨#[]⟩, .string ⟨#[]⟩, .string ⟨#[]⟩, .string ⟨#[]⟩, .string ⟨#[]⟩], .bool false]) ∧ Rel w0 w' := by
  have HS := Lib.hid (fun (w1 : World) (h : Rel w1 w1) => lsplit_rel s hs w1 w1 h)
  obtain ⟨L, hL⟩ : ∃ L, (fieldsF s).length = L := ⟨_, rfl⟩
  rw [hL] at HS h5
  have hlb : ((L : Int) != 5) = true := by simp; omega
  have HR := Lib.hid hr
  have HA := Lib.hid ((hr.self.alloc (.cells #[.string ⟨#[]⟩, .string ⟨#[]⟩, .string ⟨#[]⟩, .string ⟨#[]⟩, .string ⟨#[]⟩] 45)).alloc (.cells #[.string ⟨#[]⟩, .string ⟨#[]⟩, .string ⟨#[]⟩, .string ⟨#[]⟩, .string ⟨#[]⟩] 45))
  have HX := Lib.hid ((Bk.new w 45 #[.string ⟨#[]⟩, .string ⟨#[]⟩, .string ⟨#[]⟩, .string ⟨#[]⟩, .string ⟨#[]⟩]).alloc (.cells #[.string ⟨#[]⟩, .string ⟨#[]⟩, .string ⟨#[]⟩, .string ⟨#[]⟩, .string ⟨#[]⟩] 45))
  have HY := Lib.hid (show Bk ((w.alloc (.cells #[.string ⟨#[]⟩, .string ⟨#[]⟩, .string ⟨#[]⟩, .string ⟨#[]⟩, .string ⟨#[]⟩] 45)).alloc (.cells #[.string ⟨#[]⟩, .string ⟨#[]⟩, .string ⟨#[]⟩, .string ⟨#[]⟩, .string ⟨#[]⟩] 45)) (w.heap.size + 1) 45 #[.string ⟨#[]⟩, .string ⟨#[]⟩, .string ⟨#[]⟩, .string ⟨#[]⟩, .string ⟨#[]⟩] from by have := Bk.new (w.alloc (.cells #[.string ⟨#[]⟩, .string ⟨#[]⟩, .string ⟨#[]⟩, .string ⟨#[]⟩, .string ⟨#[]⟩] 45)) 45 #[.string ⟨#[]⟩, .string ⟨#[]⟩, .string ⟨#[]⟩, .string ⟨#[]⟩, .string ⟨#[]⟩]; rw [World.size_alloc] at this; exact this)
  have hz : ((w.alloc (.cells #[.string ⟨#[]⟩, .string ⟨#[]⟩, .string ⟨#[]⟩, .string ⟨#[]⟩, .string ⟨#[]⟩] 45)).alloc (.cells #[.string ⟨#[]⟩, .string ⟨#[]⟩, .string ⟨#[]⟩, .string ⟨#[]⟩, .string ⟨#[]⟩] 45)).heap.size = w.heap.size + 2 := by rw [World.size_alloc, World.size_alloc]
  obtain ⟨W, hW⟩ : ∃ W, (w.alloc (.cells #[.string ⟨#[]⟩, .string ⟨#[]⟩, .string ⟨#[]⟩, .string ⟨#[]⟩, .string ⟨#[]⟩] 45)).alloc (.cells #[.string ⟨#[]⟩, .string ⟨#[]⟩, .string ⟨#[]⟩, .string ⟨#[]⟩, .string ⟨#[]⟩] 45) = W := ⟨_, rfl⟩
  rw [hW] at HA HX HY hz
  clear hr hL h5
  go_enter Tryd.func25, Tryd.ntmps25
  go_upto_region 2 with (fail)
  try rw [hW]
  clear hW
  go_upto_region 3 with (go_at_call 44; (with_reducible refine (HS.out _ HA.out.self).mono ?_); rintro e w1 ⟨rfl, _, h1⟩; have R1 := Lib.hid h1; clear h1)
  have HZ := Lib.hid (HX.out.rel R1.out)
  obtain ⟨⟨y0, y1, y2, y3, y4⟩, y5, y6, y7, y8, y9⟩ := five_of HZ.out
  obtain ⟨⟨q0, q1, q2, q3, q4⟩, _⟩ := five_of (HZ.out.put5 (.string ⟨#[]⟩) (.string ⟨#[]⟩) (.string ⟨#[]⟩) (.string ⟨#[]⟩) (.string ⟨#[]⟩))
  go_wp2_with (fail)
  exact bodyPost_ret (v := .tuple #[.agg #[.string ⟨#[]⟩, .string ⟨#[]⟩, .string ⟨#[]⟩, .string ⟨#[]⟩, .string ⟨#[]⟩], .bool false]) (by simp [results, Tryd.results25, go_sem, q0, q1, q2, q3, q4]) rfl ⟨rfl, Rel.put5 ((HR.out.trans HA.out).trans R1.out) HR.out.size _ _ _ _ _⟩
set_option maxRecDepth 100000 in
set_option maxHeartbeats 4000000 in
theorem fparted_yes (s a b c d e : List UInt8) (hs : s.length ≤ 1000000) (hf : fieldsF s = [a, b, c, d, e]) (w0 w : World) (hr : Rel w0 w) :
    Calls Tryd.prog 25 #[.string (B s)] w fun r w' => r = .returned (.tuple #[.agg #[.string (B a), .string (B b), .string (B c), .string (B d), .string (B e)], .bool true]) ∧ Rel w0 w' := by
  have HS := Lib.hid (fun (w1 : World) (h : Rel w1 w1) => lsplit_rel s hs w1 w1 h)
  rw [hf] at HS
  have HS := Lib.hid (show ∀ w1 : World, Rel w1 w1 → Calls Tryd.prog 44 #[.string (B s), .string ⟨#[32]⟩] w1 fun e w' => e = .returned (.slice (some ⟨w1.heap.size, 0, none⟩) 5 5) ∧ _ ∧ Rel w1 w' from HS.out)
  have HR := Lib.hid hr
  have HA := Lib.hid ((hr.self.alloc (.cells #[.string ⟨#[]⟩, .string ⟨#[]⟩, .string ⟨#[]⟩, .string ⟨#[]⟩, .string ⟨#[]⟩] 45)).alloc (.cells #[.string ⟨#[]⟩, .string ⟨#[]⟩, .string ⟨#[]⟩, .string ⟨#[]⟩, .string ⟨#[]⟩] 45))
  have HX := Lib.hid ((Bk.new w 45 #[.string ⟨#[]⟩, .string ⟨#[]⟩, .string ⟨#[]⟩, .string ⟨#[]⟩, .string ⟨#[]⟩]).alloc (.cells #[.string ⟨#[]⟩, .string ⟨#[]⟩, .string ⟨#[]⟩, .string ⟨#[]⟩, .string ⟨#[]⟩] 45))
  have HY := Lib.hid (show Bk ((w.alloc (.cells #[.string ⟨#[]⟩, .string ⟨#[]⟩, .string ⟨#[]⟩, .string ⟨#[]⟩, .string ⟨#[]⟩] 45)).alloc (.cells #[.string ⟨#[]⟩, .string ⟨#[]⟩, .string ⟨#[]⟩, .string ⟨#[]⟩, .string ⟨#[]⟩] 45)) (w.heap.size + 1) 45 #[.string ⟨#[]⟩, .string ⟨#[]⟩, .string ⟨#[]⟩, .string ⟨#[]⟩, .string ⟨#[]⟩] from by have := Bk.new (w.alloc (.cells #[.string ⟨#[]⟩, .string ⟨#[]⟩, .string ⟨#[]⟩, .string ⟨#[]⟩, .string ⟨#[]⟩] 45)) 45 #[.string ⟨#[]⟩, .string ⟨#[]⟩, .string ⟨#[]⟩, .string ⟨#[]⟩, .string ⟨#[]⟩]; rw [World.size_alloc] at this; exact this)
  have hz : ((w.alloc (.cells #[.string ⟨#[]⟩, .string ⟨#[]⟩, .string ⟨#[]⟩, .string ⟨#[]⟩, .string ⟨#[]⟩] 45)).alloc (.cells #[.string ⟨#[]⟩, .string ⟨#[]⟩, .string ⟨#[]⟩, .string ⟨#[]⟩, .string ⟨#[]⟩] 45)).heap.size = w.heap.size + 2 := by rw [World.size_alloc, World.size_alloc]
  obtain ⟨W, hW⟩ : ∃ W, (w.alloc (.cells #[.string ⟨#[]⟩, .string ⟨#[]⟩, .string ⟨#[]⟩, .string ⟨#[]⟩, .string ⟨#[]⟩] 45)).alloc (.cells #[.string ⟨#[]⟩, .string ⟨#[]⟩, .string ⟨#[]⟩, .string ⟨#[]⟩, .string ⟨#[]⟩] 45) = W := ⟨_, rfl⟩
  rw [hW] at HA HX HY hz
  clear hr hf
  obtain ⟨xa, hxa⟩ : ∃ x, B a = x := ⟨_, rfl⟩
  obtain ⟨xb, hxb⟩ : ∃ x, B b = x := ⟨_, rfl⟩
  obtain ⟨xc, hxc⟩ : ∃ x, B c = x := ⟨_, rfl⟩
  obtain ⟨xd, hxd⟩ : ∃ x, B d = x := ⟨_, rfl⟩
  obtain ⟨xe, hxe⟩ : ∃ x, B e = x := ⟨_, rfl⟩
  rw [hxa, hxb, hxc, hxd, hxe]
  have HC := Lib.hid (show ([a, b, c, d, e].map (fun x => Value.string (B x))).toArray = #[.string xa, .string xb, .string xc, .string xd, .string xe] from by rw [← hxa, ← hxb, ← hxc, ← hxd, ← hxe]; rfl)
  clear hxa hxb hxc hxd hxe
  go_enter Tryd.func25, Tryd.ntmps25
  go_upto_region 2 with (fail)
  try rw [hW]
  clear hW
  go_upto_region 5 with (go_at_call 44; (with_reducible refine (HS.out _ HA.out.self).mono ?_); rintro e1 w1 ⟨rfl, h0, h1⟩; have R1 := Lib.hid h1; have S1 := Lib.hid h0; clear h1 h0)
  rw [HC.out, hz] at S1
  have HZ := Lib.hid (HX.out.rel R1.out)
  have HL := Lib.hid (HY.out.rel R1.out)
  have hcs : ∀ (j : Nat) v, ([.string xa, .string xb, .string xc, .string xd, .string xe] : List Value)[j]? = some v → w1.cell? ((⟨w.heap.size + 2, 0, none⟩ : Addr).add j) = some v := fun j v hj => World.news_of_block S1.out j v hj
  have HPos := Lib.hid (show 0 < ([.string xa, .string xb, .string xc, .string xd, .string xe] : List Value).length → (some ⟨w.heap.size + 1, 0, none⟩ : Option Addr) = some ⟨w.heap.size + 1, 0, none⟩ ∧ ∃ ad, (some ⟨w.heap.size + 2, 0, none⟩ : Option Addr) = some ad ∧ ∀ j v, ([.string xa, .string xb, .string xc, .string xd, .string xe] : List Value)[j]? = some v → w1.cell? (ad.add j) = some v from fun _ => ⟨rfl, _, rfl, hcs⟩)
  have HOne := Lib.hid (show ∀ v ∈ ([.string xa, .string xb, .string xc, .string xd, .string xe] : List Value), v.oneCell' = true from by intro v hv; simp at hv; rcases hv with rfl | rfl | rfl | rfl | rfl <;> rfl)
  have HInf := Lib.hid (show (Tryd.prog.info? 9).map (·.size) = some 1 by kernel_rfl)
  clear hcs
  go_upto_region 6 with (refine wpList_copy_splice (o := ⟨some 14, _, _, _, _, _⟩) rfl (.tmp 12) (.tmp 13) 33 33 rfl 9 Tryd.underlying33 HInf.out (some ⟨w.heap.size + 1, 0, none⟩) (some ⟨w.heap.size + 2, 0, none⟩) 5 5 5 5 rfl rfl (w.heap.size + 1) 0 [.string ⟨#[]⟩, .string ⟨#[]⟩, .string ⟨#[]⟩, .string ⟨#[]⟩, .string ⟨#[]⟩] 45 HL.out [.string xa, .string xb, .string xc, .string xd, .string xe] rfl HPos.out (Nat.le_refl 5) HOne.out (w.heap.size + 1) w1 (Below.refl _ _) (Nat.le_refl _) ?_; intro w2 HG HB)
  have HL2 := Lib.hid (show Bk w2 (w.heap.size + 1) 45 #[.string xa, .string xb, .string xc, .string xd, .string xe] from HG.out)
  have HZ2 := Lib.hid (show Bk w2 w.heap.size 45 #[.string ⟨#[]⟩, .string ⟨#[]⟩, .string ⟨#[]⟩, .string ⟨#[]⟩, .string ⟨#[]⟩] from (HB.block w.heap.size (Nat.lt_succ_self _)).trans HZ.out)
  have R2 := Lib.hid (show Rel w0 w2 from ⟨HR.out.1, (((HR.out.trans HA.out).trans R1.out).2).trans (HB.mono (by have := HR.out.size; omega))⟩)
  obtain ⟨⟨x0, x1, x2, x3, x4⟩, _⟩ := five_of HL2.out
  obtain ⟨⟨y0, y1, y2, y3, y4⟩, y5, y6, y7, y8, y9⟩ := five_of HZ2.out
  obtain ⟨⟨q0, q1, q2, q3, q4⟩, _⟩ := five_of (HZ2.out.put5 (.string xa) (.string xb) (.string xc) (.string xd) (.string xe))
  clear HG HB
  go_wp2_with (fail)
  exact bodyPost_ret (v := .tuple #[.agg #[.string xa, .string xb, .string xc, .string xd, .string xe], .bool true]) (by simp [results, Tryd.results25, go_sem, q0, q1, q2, q3, q4]) rfl ⟨rfl, Rel.put5 R2.out HR.out.size _ _ _ _ _⟩
end Go.Proofs.YtkpgplafcoabnaaDoor

namespace Go.Proofs.YtkpgplafcoabnaaDoor
open Go.RowKit Go.Lib
set_option linter.unusedVariables false
set_option linter.unusedSimpArgs false
theorem prR_eq (x : List UInt8) : prs1 x = prR x := by unfold prs1 prR; cases prs x <;> rfl
set_option maxRecDepth 100000 in
set_option maxHeartbeats 4000000 in
theorem fread_any (a b c d e : List UInt8) (la : a.length ≤ 1000000) (lb : b.length ≤ 1000000) (lc : c.length ≤ 1000000) (ld : d.length ≤ 1000000) (le : e.length ≤ 1000000) (w0 w : World) (hr : Rel w0 w) :
    Calls Tryd.prog 26 #[.agg #[.string (B a), .string (B b), .string (B c), .string (B d), .string (B e)]] w fun r w' => r = .returned (FV (rdF a b c d e)) ∧ Rel w0 w' := by
  obtain ⟨sq, hsq⟩ : ∃ q, cnt b 1000000000000 = q := ⟨_, rfl⟩
  obtain ⟨pr, hpr⟩ : ∃ q, prR e = q := ⟨_, rfl⟩
  obtain ⟨er, her⟩ : ∃ q, prs2 e = q := ⟨_, rfl⟩
  have HCn := Lib.hid (show ∀ w1 : World, Rel w1 w1 → Calls Tryd.prog 47 #[.string (B b), .int .i64 1000000000000] w1 fun r w' => r = .returned (.int .i64 sq) ∧ Rel w1 w' from fun w1 h => by rw [← hsq]; exact count_list b 1000000000000 (by omega) w1 w1 h)
  have HPs := Lib.hid (show ∀ w1 : World, Rel w1 w1 → Calls Tryd.prog 45 #[.string (B e)] w1 fun r w' => r = .returned (.tuple #[.int .i64 pr, .int .i64 er]) ∧ Rel w1 w' from fun w1 h => by
    have := parse_any (B e) (by rw [B_size]; omega) w1 w1 h
    rw [B_list, prR_eq, hpr, her] at this
    exact this)
  have CQ := Lib.hid hsq
  have PQ := Lib.hid hpr
  have Sa := Lib.hid (show (B a).size ≤ 1000000000 by rw [B_size]; omega)
  have Sc := Lib.hid (show (B c).size ≤ 1000000000 by rw [B_size]; omega)
  have Sd := Lib.hid (show (B d).size ≤ 1000000000 by rw [B_size]; omega)
  have HR := Lib.hid hr
  have HS := Lib.hid (SF.new hr.self 45 23 #[.string (B a), .string (B b), .string (B c), .string (B d), .string (B e)] (.string ⟨#[]⟩) (.int .i64 0) (.string ⟨#[]⟩) (.string ⟨#[]⟩) (.int .i64 0))
  obtain ⟨W, hW⟩ : ∃ W, (w.alloc (.cells #[.string (B a), .string (B b), .string (B c), .string (B d), .string (B e)] 45)).alloc (.cells #[.string ⟨#[]⟩, .int .i64 0, .string ⟨#[]⟩, .string ⟨#[]⟩, .int .i64 0] 23) = W := ⟨_, rfl⟩
  rw [hW] at HS
  obtain ⟨⟨c0, c1, c2, c3, c4⟩, _⟩ := five_of HS.out.2.1
  clear hr hsq hpr her la lb lc ld le
  go_enter Tryd.func26, Tryd.ntmps26
  go_upto_region 1 with (fail)
  try rw [hW]
  clear hW
  go_upto_region 2 with (go_at_call 45; (with_reducible refine (HPs.out _ HS.out.self).mono ?_); rintro e1 w1 ⟨rfl, h1⟩; have HS2 := Lib.hid (HS.out.rel h1); clear h1)
  refine wp_region_held_drew (S := (fun w' => SF w w' 45 #[.string (B a), .string (B b), .string (B c), .string (B d), .string (B e)] 23)) (by kernel_rfl) HS2.out.drew (fun hHeld => ?_)
  refine held_take (i := 0) (v := ?_) (some 11) rfl rfl (by kernel_rfl) (by kernel_rfl) (by kernel_rfl) (fun _ _ _ h => h) (Or.inl ⟨by rfl, ?_⟩) hHeld ?_
  rotate_left 1
  · intro w' (h : SF w w' 45 #[.string (B a), .string (B b), .string (B c), .string (B d), .string (B e)] 23); obtain ⟨⟨c0, c1, c2, c3, c4⟩, _⟩ := five_of h.2.1; go_simp; try with_reducible rfl
  try simp only [Act.put, List.setIfInBounds_toArray, List.set_cons_zero, List.set_cons_succ]
  refine held_take (i := 1) (v := ?_) (some 12) rfl rfl (by kernel_rfl) (by kernel_rfl) (by kernel_rfl) (fun _ _ _ h => h) (Or.inl ⟨by rfl, ?_⟩) hHeld ?_
  rotate_left 1
  · intro w' (h : SF w w' 45 #[.string (B a), .string (B b), .string (B c), .string (B d), .string (B e)] 23); obtain ⟨⟨c0, c1, c2, c3, c4⟩, _⟩ := five_of h.2.1; go_simp; try with_reducible rfl
  try simp only [Act.put, List.setIfInBounds_toArray, List.set_cons_zero, List.set_cons_succ]
  refine held_take (i := 3) (v := ?_) (some 14) rfl rfl (by kernel_rfl) (by kernel_rfl) (by kernel_rfl) (fun _ _ _ h => h) (Or.inl ⟨by rfl, ?_⟩) hHeld ?_
  rotate_left 1
  · intro w' (h : SF w w' 45 #[.string (B a), .string (B b), .string (B c), .string (B d), .string (B e)] 23); obtain ⟨⟨c0, c1, c2, c3, c4⟩, _⟩ := five_of h.2.1; go_simp; try with_reducible rfl
  try simp only [Act.put, List.setIfInBounds_toArray, List.set_cons_zero, List.set_cons_succ]
  refine held_take (i := 4) (v := ?_) (some 15) rfl rfl (by kernel_rfl) (by kernel_rfl) (by kernel_rfl) (fun _ _ _ h => h) (Or.inl ⟨by rfl, ?_⟩) hHeld ?_
  rotate_left 1
  · intro w' (h : SF w w' 45 #[.string (B a), .string (B b), .string (B c), .string (B d), .string (B e)] 23); obtain ⟨⟨c0, c1, c2, c3, c4⟩, _⟩ := five_of h.2.1; go_simp; try with_reducible rfl
  try simp only [Act.put, List.setIfInBounds_toArray, List.set_cons_zero, List.set_cons_succ]
  refine held_take (i := 6) (v := ?_) (some 17) rfl rfl (by kernel_rfl) (by kernel_rfl) (by kernel_rfl) (fun _ _ _ h => h) (Or.inl ⟨by rfl, ?_⟩) hHeld ?_
  rotate_left 1
  · intro w' (h : SF w w' 45 #[.string (B a), .string (B b), .string (B c), .string (B d), .string (B e)] 23); obtain ⟨⟨c0, c1, c2, c3, c4⟩, _⟩ := five_of h.2.1; go_simp; try with_reducible rfl
  try simp only [Act.put, List.setIfInBounds_toArray, List.set_cons_zero, List.set_cons_succ]
  refine held_take (i := 7) (v := ?_) (some 18) rfl rfl (by kernel_rfl) (by kernel_rfl) (by kernel_rfl) (fun _ _ _ h => h) (Or.inl ⟨by rfl, ?_⟩) hHeld ?_
  rotate_left 1
  · intro w' (h : SF w w' 45 #[.string (B a), .string (B b), .string (B c), .string (B d), .string (B e)] 23); obtain ⟨⟨c0, c1, c2, c3, c4⟩, _⟩ := five_of h.2.1; go_simp; try with_reducible rfl
  try simp only [Act.put, List.setIfInBounds_toArray, List.set_cons_zero, List.set_cons_succ]
  refine held_take (i := 9) (v := ?_) (some 20) rfl rfl (by kernel_rfl) (by kernel_rfl) (by kernel_rfl) (fun _ _ _ h => h) (Or.inl ⟨by rfl, ?_⟩) hHeld ?_
  rotate_left 1
  · intro w' (h : SF w w' 45 #[.string (B a), .string (B b), .string (B c), .string (B d), .string (B e)] 23); obtain ⟨⟨c0, c1, c2, c3, c4⟩, _⟩ := five_of h.2.1; go_simp; try with_reducible rfl
  try simp only [Act.put, List.setIfInBounds_toArray, List.set_cons_zero, List.set_cons_succ]
  refine held_take (i := 10) (v := ?_) (some 21) rfl rfl (by kernel_rfl) (by kernel_rfl) (by kernel_rfl) (fun _ _ _ h => h) (Or.inl ⟨by rfl, ?_⟩) hHeld ?_
  rotate_left 1
  · intro w' (h : SF w w' 45 #[.string (B a), .string (B b), .string (B c), .string (B d), .string (B e)] 23); obtain ⟨⟨c0, c1, c2, c3, c4⟩, _⟩ := five_of h.2.1; go_simp; try with_reducible rfl
  try simp only [Act.put, List.setIfInBounds_toArray, List.set_cons_zero, List.set_cons_succ]
  refine held_take (i := 12) (v := ?_) (some 23) rfl rfl (by kernel_rfl) (by kernel_rfl) (by kernel_rfl) (fun _ _ _ h => h) (Or.inl ⟨by rfl, ?_⟩) hHeld ?_
  rotate_left 1
  · intro w' (h : SF w w' 45 #[.string (B a), .string (B b), .string (B c), .string (B d), .string (B e)] 23); obtain ⟨⟨c0, c1, c2, c3, c4⟩, _⟩ := five_of h.2.1; go_simp; try with_reducible rfl
  try simp only [Act.put, List.setIfInBounds_toArray, List.set_cons_zero, List.set_cons_succ]
  refine held_one (j := 2) (by kernel_rfl) rfl (fun K hK => ?_)
  try simp only [List.getElem_toArray, List.getElem_cons_succ, List.getElem_cons_zero]
  rw [if_pos (by rfl)]
  go_simp
  go_at_call 46
  (with_reducible refine (lclone_any (B a) Sa.out _ _ hHeld.self).mono ?_)
  rintro ea wa ⟨rfl, ha⟩
  refine hK.out _ _ (hHeld.rel ha) (fun hHeld => ?_)
  clear hK K
  try simp only [Act.put, List.setIfInBounds_toArray, List.set_cons_zero, List.set_cons_succ]
  refine held_one (j := 5) (by kernel_rfl) rfl (fun K hK => ?_)
  try simp only [List.getElem_toArray, List.getElem_cons_succ, List.getElem_cons_zero]
  rw [if_pos (by rfl)]
  go_simp
  go_at_call 47
  (with_reducible refine (HCn.out _ hHeld.self).mono ?_)
  rintro eb wb ⟨rfl, hb⟩
  refine hK.out _ _ (hHeld.rel hb) (fun hHeld => ?_)
  clear hK K
  try simp only [Act.put, List.setIfInBounds_toArray, List.set_cons_zero, List.set_cons_succ]
  refine held_one (j := 8) (by kernel_rfl) rfl (fun K hK => ?_)
  try simp only [List.getElem_toArray, List.getElem_cons_succ, List.getElem_cons_zero]
  rw [if_pos (by rfl)]
  go_simp
  go_at_call 46
  (with_reducible refine (lclone_any (B c) Sc.out _ _ hHeld.self).mono ?_)
  rintro ec wc ⟨rfl, hc⟩
  refine hK.out _ _ (hHeld.rel hc) (fun hHeld => ?_)
  clear hK K
  try simp only [Act.put, List.setIfInBounds_toArray, List.set_cons_zero, List.set_cons_succ]
  refine held_one (j := 11) (by kernel_rfl) rfl (fun K hK => ?_)
  try simp only [List.getElem_toArray, List.getElem_cons_succ, List.getElem_cons_zero]
  rw [if_pos (by rfl)]
  go_simp
  go_at_call 46
  (with_reducible refine (lclone_any (B d) Sd.out _ _ hHeld.self).mono ?_)
  rintro ed wd ⟨rfl, hd⟩
  refine hK.out _ _ (hHeld.rel hd) (fun hHeld => ?_)
  clear hK K
  try simp only [Act.put, List.setIfInBounds_toArray, List.set_cons_zero, List.set_cons_succ]
  refine held_take (i := 13) (v := ?_) (some 24) rfl rfl (by kernel_rfl) (by kernel_rfl) (by kernel_rfl) (fun _ _ _ h => h) (Or.inl ⟨by rfl, ?_⟩) hHeld ?_
  rotate_left 1
  · intro w' (h : SF w w' 45 #[.string (B a), .string (B b), .string (B c), .string (B d), .string (B e)] 23); obtain ⟨⟨c0, c1, c2, c3, c4⟩, _⟩ := five_of h.2.1; go_simp; try with_reducible rfl
  try simp only [Act.put, List.setIfInBounds_toArray, List.set_cons_zero, List.set_cons_succ]
  refine held_one (j := 14) (by kernel_rfl) rfl (fun K hK => ?_)
  try simp only [List.getElem_toArray, List.getElem_cons_succ, List.getElem_cons_zero]
  rw [if_pos (by rfl)]
  obtain ⟨z0, z1, z2, z3, z4, hb⟩ := hHeld.2.2
  have HQ := Lib.hid (hb.put5 (.string (B a)) (.int .i64 sq) (.string (B c)) (.string (B d)) (.int .i64 pr))
  obtain ⟨⟨y0, y1, y2, y3, y4⟩, y5, y6, y7, y8, y9⟩ := five_of hb
  clear hb
  go_simp
  refine hK.out _ _ (hHeld.put _ _ _ _ _) (fun hHeld => ?_)
  clear hK K
  try simp only [Act.put, List.setIfInBounds_toArray, List.set_cons_zero, List.set_cons_succ]
  refine wpAnyH_done (by kernel_rfl) ?_ _
  go_wp2_with (fail)
  obtain ⟨⟨q0, q1, q2, q3, q4⟩, _⟩ := five_of HQ.out
  exact bodyPost_ret (v := .agg #[.string (B a), .int .i64 sq, .string (B c), .string (B d), .int .i64 pr]) (by simp [results, Tryd.results26, go_sem, q0, q1, q2, q3, q4]) rfl ⟨by unfold rdF; rw [CQ.out, PQ.out], HR.out.trans hHeld.1⟩
end Go.Proofs.YtkpgplafcoabnaaDoor

namespace Go.Proofs.YtkpgplafcoabnaaDoor
open Go.RowKit Go.Lib
set_option linter.unusedVariables false
set_option linter.unusedSimpArgs false
theorem toL_eq (x : ByteArray) : x.toList = x.data.toList := by
  have := B_toList x.data.toList
  rwa [B_of] at this
theorem bt_no {x y : ByteArray} (h : x ≠ y) : (x.toList == y.toList) = false := by
  rw [toL_eq, toL_eq]
  simp only [beq_eq_false_iff_ne, ne_eq]
  exact fun e => h (by rw [← B_of x, ← B_of y, e])
theorem eq_items (W : World) (xs ys : Array Value) (A B : List ByteArray) : ∀ (is : List Nat), (∀ i ∈ is, xs[i]? = some (.string (A.getD i ⟨#[]⟩)) ∧ ys[i]? = some (.string (B.getD i ⟨#[]⟩))) →
    (Op.eqItems 9999 9 1 xs ys is).run Tryd.prog W = .ok (is.all fun i => (A.getD i ⟨#[]⟩).toList == (B.getD i ⟨#[]⟩).toList) W := by
  intro is
  induction is with
  | nil => intro _; rfl
  | cons i r ih =>
    intro h
    obtain ⟨hx, hy⟩ := h i (by simp)
    have h2 := ih (fun j hj => h j (List.mem_cons_of_mem _ hj))
    have px : (part 9 xs (i * 1)).run Tryd.prog W = .ok (.string (A.getD i ⟨#[]⟩)) W := by
      rw [Nat.mul_one]; exact run_part_plain W (by kernel_rfl) hx
    have py : (part 9 ys (i * 1)).run Tryd.prog W = .ok (.string (B.getD i ⟨#[]⟩)) W := by
      rw [Nat.mul_one]; exact run_part_plain W (by kernel_rfl) hy
    have pe : (Op.equalIn 9999 9 (.string (A.getD i ⟨#[]⟩)) (.string (B.getD i ⟨#[]⟩))).run Tryd.prog W = .ok ((A.getD i ⟨#[]⟩).toList == (B.getD i ⟨#[]⟩).toList) W := by
      have := run_equalIn_string (P := Tryd.prog) W 9998 9 (A.getD i ⟨#[]⟩) (B.getD i ⟨#[]⟩) Tryd.underlying9
      exact this
    simp only [Op.eqItems, Sem.run_bind, px, py, pe, Result.andThen_ok, List.all_cons]
    cases (A.getD i ⟨#[]⟩).toList == (B.getD i ⟨#[]⟩).toList with
    | false => simp
    | true => simpa using h2
theorem eq_fields (W : World) (a0 a1 a2 a3 a4 b0 b1 b2 b3 b4 : ByteArray) : (Op.equalIn 10000 45 (.agg #[.string a0, .string a1, .string a2, .string a3, .string a4]) (.agg #[.string b0, .string b1, .string b2, .string b3, .string b4])).run Tryd.prog W
    = .ok ((List.range 5).all fun i => ([a0, a1, a2, a3, a4].getD i ⟨#[]⟩).toList == ([b0, b1, b2, b3, b4].getD i ⟨#[]⟩).toList) W := by
  obtain ⟨i, hi⟩ := info_of_underlying Tryd.underlying9
  rw [run_equalIn_array W 9999 _ _ Tryd.underlying45 hi, show Tryd.prog.cellsOf 9 = 1 by kernel_rfl]
  refine eq_items W _ _ [a0, a1, a2, a3, a4] [b0, b1, b2, b3, b4] (List.range 5) (fun j hj => ?_)
  have hj := List.mem_range.1 hj
  have ways : j = 0 ∨ j = 1 ∨ j = 2 ∨ j = 3 ∨ j = 4 := by omega
  rcases ways with rfl | rfl | rfl | rfl | rfl <;> exact ⟨rfl, rfl⟩
theorem eq_fields_yes (W : World) (v : Array Value) (a b c d e : List UInt8) (hv : v = #[.string (B a), .string (B b), .string (B c), .string (B d), .string (B e)]) : (Op.equalIn 10000 45 (.agg v) (.agg v)).run Tryd.prog W = .ok true W := by
  subst hv
  rw [eq_fields]
  simp
theorem eq_fields_no (W : World) (v0 v1 v2 v3 v4 a b c d e : List UInt8) (h : [v0, v1, v2, v3, v4] ≠ [a, b, c, d, e]) : (Op.equalIn 10000 45 (.agg #[.string (B v0), .string (B v1), .string (B v2), .string (B v3), .string (B v4)]) (.agg #[.string (B a), .string (B b), .string (B c), .string (B d), .string (B e)])).run Tryd.prog W = .ok false W := by
  rw [eq_fields]
  congr 1
  rw [Bool.eq_false_iff]
  intro hh
  refine h ?_
  have hall := fun j hj => List.all_eq_true.1 hh j (List.mem_range.2 hj)
  have z : ∀ {x y : List UInt8}, ((B x).toList == (B y).toList) = true → x = y := fun hz => by rw [B_toList, B_toList] at hz; simpa using hz
  have h0 := z (hall 0 (by omega))
  have h1 := z (hall 1 (by omega))
  have h2 := z (hall 2 (by omega))
  have h3 := z (hall 3 (by omega))
  have h4 := z (hall 4 (by omega))
  rw [h0, h1, h2, h3, h4]
/-- The first place at which two rows of texts are unlike; their length, if there is none. -/
def unlB : List ByteArray → List ByteArray → Nat
  | x :: r, y :: t => if x = y then unlB r t + 1 else 0
  | _, _ => 0
theorem unlB_map : ∀ (l m : List (List UInt8)), unlB (l.map B) (m.map B) = unlikeF l m := by
  intro l
  induction l with
  | nil => intro m; rfl
  | cons x r ih =>
    intro m
    cases m with
    | nil => rfl
    | cons y t =>
      rw [List.map_cons, List.map_cons, unlB, unlikeF, ih t]
      by_cases h : x = y
      · rw [if_pos h, if_pos (by rw [h])]
      · rw [if_neg h, if_neg (fun e => h (B_inj.1 e))]
theorem unlB_at : ∀ (l m : List ByteArray) (j : Nat), l.length = m.length → j ≤ l.length → (∀ k, k < j → l.getD k ⟨#[]⟩ = m.getD k ⟨#[]⟩) → (j < l.length → l.getD j ⟨#[]⟩ ≠ m.getD j ⟨#[]⟩) → unlB l m = j := by
  intro l
  induction l with
  | nil => intro m j hl hj h1 h2; cases m <;> (simp only [List.length_nil, Nat.le_zero] at hj; rw [hj]; rfl)
  | cons x r ih =>
    intro m j hl hj h1 h2
    cases m with
    | nil => simp at hl
    | cons y t =>
      cases j with
      | zero =>
        have := h2 (by simp)
        rw [unlB, if_neg (by simpa using this)]
      | succ j =>
        have h0 := h1 0 (by omega)
        rw [unlB, if_pos (by simpa using h0), ih t j (by simpa using hl) (by simpa using hj) (fun k hk => by have := h1 (k + 1) (by omega); simpa using this) (fun hj' => by have := h2 (by simpa using hj'); simpa using this)]
set_option maxRecDepth 100000 in
set_option maxHeartbeats 4000000 in
theorem funlikeB_any (x0 x1 x2 x3 x4 y0 y1 y2 y3 y4 : ByteArray) (w0 w : World) (hr : Rel w0 w) :
    Calls Tryd.prog 27 #[.agg #[.string x0, .string x1, .string x2, .string x3, .string x4], .agg #[.string y0, .string y1, .string y2, .string y3, .string y4]] w fun r w' => r = .returned (.int .i64 (unlB [x0, x1, x2, x3, x4] [y0, y1, y2, y3, y4])) ∧ Rel w0 w' := by
  have HR := Lib.hid ((hr.alloc (.cells #[.string x0, .string x1, .string x2, .string x3, .string x4] 45)).alloc (.cells #[.string y0, .string y1, .string y2, .string y3, .string y4] 45))
  have HX := Lib.hid ((Bk.new w 45 #[.string x0, .string x1, .string x2, .string x3, .string x4]).alloc (.cells #[.string y0, .string y1, .string y2, .string y3, .string y4] 45))
  have HY := Lib.hid (show Bk ((w.alloc (.cells #[.string x0, .string x1, .string x2, .string x3, .string x4] 45)).alloc (.cells #[.string y0, .string y1, .string y2, .string y3, .string y4] 45)) (w.heap.size + 1) 45 #[.string y0, .string y1, .string y2, .string y3, .string y4] from by have := Bk.new (w.alloc (.cells #[.string x0, .string x1, .string x2, .string x3, .string x4] 45)) 45 #[.string y0, .string y1, .string y2, .string y3, .string y4]; rw [World.size_alloc] at this; exact this)
  obtain ⟨W, hW⟩ : ∃ W, (w.alloc (.cells #[.string x0, .string x1, .string x2, .string x3, .string x4] 45)).alloc (.cells #[.string y0, .string y1, .string y2, .string y3, .string y4] 45) = W := ⟨_, rfl⟩
  rw [hW] at HR HX HY
  obtain ⟨X, hX⟩ : ∃ X : Nat → ByteArray, X = fun j => [x0, x1, x2, x3, x4].getD j ⟨#[]⟩ := ⟨_, rfl⟩
  obtain ⟨Y, hY⟩ : ∃ Y : Nat → ByteArray, Y = fun j => [y0, y1, y2, y3, y4].getD j ⟨#[]⟩ := ⟨_, rfl⟩
  have CX := Lib.hid (show ∀ j, j < 5 → W.cell? ⟨w.heap.size, j, none⟩ = some (.string (X j)) from fun j hj => by
    subst hX
    obtain ⟨⟨b0, b1, b2, b3, b4⟩, _⟩ := five_of HX.out
    have ways : j = 0 ∨ j = 1 ∨ j = 2 ∨ j = 3 ∨ j = 4 := by omega
    rcases ways with rfl | rfl | rfl | rfl | rfl <;> assumption)
  have CY := Lib.hid (show ∀ j, j < 5 → W.cell? ⟨w.heap.size + 1, j, none⟩ = some (.string (Y j)) from fun j hj => by
    subst hY
    obtain ⟨⟨b0, b1, b2, b3, b4⟩, _⟩ := five_of HY.out
    have ways : j = 0 ∨ j = 1 ∨ j = 2 ∨ j = 3 ∨ j = 4 := by omega
    rcases ways with rfl | rfl | rfl | rfl | rfl <;> assumption)
  have HU := Lib.hid (show ∀ j, j ≤ 5 → (∀ k, k < j → X k = Y k) → (j < 5 → X j ≠ Y j) → unlB [x0, x1, x2, x3, x4] [y0, y1, y2, y3, y4] = j from fun j hj h1 h2 => by
    subst hX; subst hY
    exact unlB_at _ _ j rfl hj h1 h2)
  clear hX hY hr
  go_enter Tryd.func27, Tryd.ntmps27
  go_upto_region 1 with (fail)
  try rw [hW]
  clear hW
  go_upto_block 0 with (fail)
  go_wp2_with (fail)
  go_loopw [6] (fun i wr => ∃ j : Nat, j ≤ 5 ∧ i = .int .i64 (j : Int) ∧ Hid (∀ k, k < j → X k = Y k) ∧ Hid (Rel W wr)) (fun i _ => 5 - (RowKit.intOf i).toNat)
  case atStart => exact ⟨0, by omega, rfl, Lib.hid (fun k h => absurd h (by omega)), Lib.hid HR.out.self⟩
  case round =>
    obtain ⟨j, hj, rfl, HJ, HV⟩ := hrel
    by_cases hlt : j < 5
    · have cx : wr.cell? ⟨w.heap.size, j, none⟩ = some (.string (X j)) := (HV.out.2.cell (p := ⟨w.heap.size, j, none⟩) HX.out.lt).trans (CX.out j hlt)
      have cy : wr.cell? ⟨w.heap.size + 1, j, none⟩ = some (.string (Y j)) := (HV.out.2.cell (p := ⟨w.heap.size + 1, j, none⟩) HY.out.lt).trans (CY.out j hlt)
      obtain ⟨x, hx⟩ : ∃ x, X j = x := ⟨_, rfl⟩
      obtain ⟨y, hy⟩ : ∃ y, Y j = y := ⟨_, rfl⟩
      rw [hx] at cx
      rw [hy] at cy
      have GX := Lib.hid hx
      have GY := Lib.hid hy
      clear hx hy
      by_cases he : x = y
      · subst he
        go_upto_region 4 with (fail)
        go_quiet (fail)
        all_goals
          go_wp2_with (fail)
          go_roundw
          case rel => exact ⟨j + 1, by omega, by go_num, Lib.hid (fun k hk => by
            rcases Nat.lt_or_ge k j with h | h
            · exact HJ.out k h
            · obtain rfl : k = j := by omega
              rw [GX.out, GY.out]), Lib.hid (HV.out.drewN _)⟩
          case measure => simp [RowKit.intOf]; omega
      · have e1 : (x.toList == y.toList) = false := bt_no he
        have HN := Lib.hid he
        clear he
        go_upto_region 4 with (fail)
        go_quiet (fail)
        go_wp2_with (fail)
        go_ret
        exact ⟨ret_int (by rw [HU.out j hj HJ.out (fun _ => by rw [GX.out, GY.out]; exact HN.out)]), (HR.out.trans HV.out).drewN _⟩
    · obtain rfl : j = 5 := by omega
      go_wp2_with (fail)
      go_ret
      exact ⟨ret_int (by rw [HU.out 5 (Nat.le_refl _) HJ.out (fun h => absurd h (by omega))]; rfl), HR.out.trans HV.out⟩
theorem funlike_any (v0 v1 v2 v3 v4 a b c d e : List UInt8) (w0 w : World) (hr : Rel w0 w) :
    Calls Tryd.prog 27 #[.agg #[.string (B v0), .string (B v1), .string (B v2), .string (B v3), .string (B v4)], .agg #[.string (B a), .string (B b), .string (B c), .string (B d), .string (B e)]] w fun r w' => r = .returned (.int .i64 (unlikeF [v0, v1, v2, v3, v4] [a, b, c, d, e] : Nat)) ∧ Rel w0 w' := by
  have := funlikeB_any (B v0) (B v1) (B v2) (B v3) (B v4) (B a) (B b) (B c) (B d) (B e) w0 w hr
  have e1 : unlB [B v0, B v1, B v2, B v3, B v4] [B a, B b, B c, B d, B e] = unlikeF [v0, v1, v2, v3, v4] [a, b, c, d, e] := unlB_map [v0, v1, v2, v3, v4] [a, b, c, d, e]
  rw [e1] at this
  exact this
end Go.Proofs.YtkpgplafcoabnaaDoor
