/- The landed first: the closure that it hands over, slices.IndexFunc, the place of the first of a name. -/
import Derived.Test.YtfplhpkolcgpiaaZL
import Derived.Test.YtfplhpkolcgpiaaZ00
import Derived.Test.YtfplhpkolcgpiaaZ01
namespace Go.Proofs.Ytfplhpkolcgpiaa
open Go.RowKit Go.Lib
set_option linter.unusedVariables false
set_option linter.unusedSimpArgs false
/-- The place of the first of a name; none. -/
def SnIs (l : List Sn) (s : List UInt8) (r : Int) : Prop := (r = -1 ∧ ∀ k (hk : k < l.length), l[k].1 ≠ s) ∨ ∃ i : Nat, r = (i : Int) ∧ ∃ hi : i < l.length, l[i].1 = s ∧ ∀ k (hk : k < l.length), k < i → l[k].1 ≠ s
theorem at_none {b : List Sl} {s : List UInt8} (h : ∀ k (hk : k < b.length), b[k].1 ≠ s) : hasB b s = false := by
  rw [Bool.eq_false_iff]
  intro ha
  obtain ⟨x, hx, e⟩ := hasB_iff.1 ha
  obtain ⟨i, hi, rfl⟩ := List.getElem_of_mem hx
  exact h i hi e
set_option maxRecDepth 100000 in
set_option maxHeartbeats 4000000 in
theorem closs_slot (X : ByteArray) (p t : Int) (S : ByteArray) (q : Bool) (hq : (X.toList == S.toList) = q) (g1 g2 : Nat) (w0 w : World) (hr : Rel w0 w) (h1 : Bk w g1 61 #[.func (.func 33) #[] #[]]) (h2 : Bk w g2 9 #[.string S]) :
    Calls Try.prog 60 #[.agg #[.string X, .int .i64 p, .int .i64 t], .pointer (some ⟨g1, 0, none⟩), .pointer (some ⟨g2, 0, none⟩)] w fun e w' => e = .returned (.bool q) ∧ Rel w0 w' := by
  have hen := enter_seller
  have HR := Lib.hid hr
  have H1 := Lib.hid h1
  have H2 := Lib.hid h2
  clear hr h1 h2
  go_enter Try.func60, Try.ntmps60
  go_upto_region 1 with (fail)
  have HX := Bk.new w 50 #[.string X, .int .i64 p, .int .i64 t]
  have HR1 := Lib.hid (HR.out.alloc (.cells #[.string X, .int .i64 p, .int .i64 t] 50))
  have H1' := H1.out.alloc (.cells #[.string X, .int .i64 p, .int .i64 t] 50)
  have H2' := H2.out.alloc (.cells #[.string X, .int .i64 p, .int .i64 t] 50)
  obtain ⟨g3, hg3⟩ : ∃ g, w.heap.size = g := ⟨_, rfl⟩
  obtain ⟨W, hW⟩ : ∃ W, w.alloc (.cells #[.string X, .int .i64 p, .int .i64 t] 50) = W := ⟨_, rfl⟩
  rw [hW] at HX HR1 H1' H2'
  rw [hg3] at HX
  try rw [hW]
  try rw [hg3]
  clear hW hg3
  have l1 := H1'.lt
  have l2 := H2'.lt
  have l3 := HX.lt
  have k1 : W.cell? ⟨g1, 0, none⟩ = some (.func (.func 33) #[] #[]) := H1'.cell 0
  have k2 : W.cell? ⟨g2, 0, none⟩ = some (.string S) := H2'.cell 0
  have x0 : W.cell? ⟨g3, 0, none⟩ = some (.string X) := HX.cell 0
  have x1 : W.cell? ⟨g3, 1, none⟩ = some (.int .i64 p) := HX.cell 1
  have x2 : W.cell? ⟨g3, 2, none⟩ = some (.int .i64 t) := HX.cell 2
  clear HX H1' H2'
  go_region_held3 (fun w' => w'.cell? ⟨g1, 0, none⟩ = some (.func (.func 33) #[] #[]) ∧ w'.cell? ⟨g2, 0, none⟩ = some (.string S) ∧ w'.cell? ⟨g3, 0, none⟩ = some (.string X) ∧ w'.cell? ⟨g3, 1, none⟩ = some (.int .i64 p) ∧ w'.cell? ⟨g3, 2, none⟩ = some (.int .i64 t))
    (first | go_keep | exact ⟨(r1.2.cell (p := ⟨g1, 0, none⟩) l1).trans k1, (r1.2.cell (p := ⟨g2, 0, none⟩) l2).trans k2, (r1.2.cell (p := ⟨g3, 0, none⟩) l3).trans x0, (r1.2.cell (p := ⟨g3, 1, none⟩) l3).trans x1, (r1.2.cell (p := ⟨g3, 2, none⟩) l3).trans x2⟩)
    ((go_at_fn 33; (with_reducible refine (seller_of X p t W.drew W.drew HR1.out.drew.self).mono ?_); rintro e w1 ⟨rfl, r1⟩; have R1 := Lib.hid r1))
  all_goals
    go_wp2_with (fail)
    go_ret
    exact ⟨by first | rfl | exact ret_bool hq, HR1.out.drew.trans R1.out⟩
theorem enter_closs_slot : ∀ (args : Array Value) (w : World), (callFunc 60 args).run Try.prog w = .ok (.enter 60 args) w := enters_of Try.func60 (by kernel_rfl) rfl
set_option maxRecDepth 100000 in
set_option maxHeartbeats 4000000 in
theorem closs_seen (X : ByteArray) (p : Int) (S : ByteArray) (q : Bool) (hq : (X.toList == S.toList) = q) (g1 g2 : Nat) (w0 w : World) (hr : Rel w0 w) (h1 : Bk w g1 73 #[.func (.func 46) #[] #[]]) (h2 : Bk w g2 9 #[.string S]) :
    Calls Try.prog 63 #[.agg #[.string X, .int .i64 p], .pointer (some ⟨g1, 0, none⟩), .pointer (some ⟨g2, 0, none⟩)] w fun e w' => e = .returned (.bool q) ∧ Rel w0 w' := by
  have hen := enter_source
  have HR := Lib.hid hr
  have H1 := Lib.hid h1
  have H2 := Lib.hid h2
  clear hr h1 h2
  go_enter Try.func63, Try.ntmps63
  go_upto_region 1 with (fail)
  have HX := Bk.new w 72 #[.string X, .int .i64 p]
  have HR1 := Lib.hid (HR.out.alloc (.cells #[.string X, .int .i64 p] 72))
  have H1' := H1.out.alloc (.cells #[.string X, .int .i64 p] 72)
  have H2' := H2.out.alloc (.cells #[.string X, .int .i64 p] 72)
  obtain ⟨g3, hg3⟩ : ∃ g, w.heap.size = g := ⟨_, rfl⟩
  obtain ⟨W, hW⟩ : ∃ W, w.alloc (.cells #[.string X, .int .i64 p] 72) = W := ⟨_, rfl⟩
  rw [hW] at HX HR1 H1' H2'
  rw [hg3] at HX
  try rw [hW]
  try rw [hg3]
  clear hW hg3
  have l1 := H1'.lt
  have l2 := H2'.lt
  have l3 := HX.lt
  have k1 : W.cell? ⟨g1, 0, none⟩ = some (.func (.func 46) #[] #[]) := H1'.cell 0
  have k2 : W.cell? ⟨g2, 0, none⟩ = some (.string S) := H2'.cell 0
  have x0 : W.cell? ⟨g3, 0, none⟩ = some (.string X) := HX.cell 0
  have x1 : W.cell? ⟨g3, 1, none⟩ = some (.int .i64 p) := HX.cell 1
  clear HX H1' H2'
  go_region_held3 (fun w' => w'.cell? ⟨g1, 0, none⟩ = some (.func (.func 46) #[] #[]) ∧ w'.cell? ⟨g2, 0, none⟩ = some (.string S) ∧ w'.cell? ⟨g3, 0, none⟩ = some (.string X) ∧ w'.cell? ⟨g3, 1, none⟩ = some (.int .i64 p))
    (first | go_keep | exact ⟨(r1.2.cell (p := ⟨g1, 0, none⟩) l1).trans k1, (r1.2.cell (p := ⟨g2, 0, none⟩) l2).trans k2, (r1.2.cell (p := ⟨g3, 0, none⟩) l3).trans x0, (r1.2.cell (p := ⟨g3, 1, none⟩) l3).trans x1⟩)
    ((go_at_fn 46; (with_reducible refine (source_of X p W.drew W.drew HR1.out.drew.self).mono ?_); rintro e w1 ⟨rfl, r1⟩; have R1 := Lib.hid r1))
  all_goals
    go_wp2_with (fail)
    go_ret
    exact ⟨by first | rfl | exact ret_bool hq, HR1.out.drew.trans R1.out⟩
theorem enter_closs_seen : ∀ (args : Array Value) (w : World), (callFunc 63 args).run Try.prog w = .ok (.enter 63 args) w := enters_of Try.func63 (by kernel_rfl) rfl
set_option maxRecDepth 100000 in
set_option maxHeartbeats 4000000 in
theorem idx_slot (b : List Sl) (s : List UInt8) (A : Option Addr) (c g1 g2 : Nat) (w : World) (hr : Rel w w) (hb : RowAt cl3 3 w A b) (hl : b.length ≤ 9223372036854775807) (h1 : Bk w g1 61 #[.func (.func 33) #[] #[]]) (h2 : Bk w g2 9 #[.string (B s)]) :
    Calls Try.prog 59 #[.slice A b.length c, .func (.func 60) #[] #[.pointer (some ⟨g1, 0, none⟩), .pointer (some ⟨g2, 0, none⟩)]] w fun e w' => ∃ r : Int, e = .returned (.int .i64 r) ∧ AtIs b s r ∧ Rel w w' := by
  have hen := enter_closs_slot
  have HB := Lib.hid hb
  have HR := Lib.hid hr
  have H1 := Lib.hid h1
  have H2 := Lib.hid h2
  clear hr h1 h2 hb
  go_enter Try.func59, Try.ntmps59
  go_wp2_with (fail)
  go_loopw [5, 8] (fun _ i wr => ∃ j : Nat, j ≤ b.length ∧ i = .int .i64 (j : Int) ∧ Hid (∀ k (hk : k < b.length), k < j → b[k].1 ≠ s) ∧ Hid (Rel w wr)) (fun _ i _ => b.length - (RowKit.intOf i).toNat)
  case atStart => exact ⟨0, by omega, rfl, Lib.hid (fun k hk h => absurd h (by omega)), HR⟩
  case round =>
    obtain ⟨j, hj, rfl, HJ, HRw⟩ := hrel
    by_cases hlt : j < b.length
    · obtain ⟨g, off, x, rfl, hgl, hx, k0, k1, k2⟩ := slot_at HB.out HRw.out j hlt
      have HX := Lib.hid hx
      have hi : (j : Int) < (b.length : Int) := by omega
      clear hx hgl
      have hbl := bl_is x.1 s
      have H2' := H2.out
      obtain ⟨X, hX⟩ : ∃ X, B x.1 = X := ⟨_, rfl⟩
      obtain ⟨S, hS⟩ : ∃ S, B s = S := ⟨_, rfl⟩
      rw [hX] at k0
      rw [hX, hS] at hbl
      rw [hS] at H2'
      have HC := Lib.hid (fun (q : Bool) (hq : (X.toList == S.toList) = q) => closs_slot X x.2.1 x.2.2 S q hq g1 g2 wr wr HRw.out.self (H1.out.rel HRw.out) (H2'.rel HRw.out))
      clear H2'
      by_cases he : x.1 = s
      · rw [decide_eq_true he] at hbl
        have HE := Lib.hid he
        clear he hX hS
        have HC2 := Lib.hid (HC.out true hbl)
        clear HC hbl
        go_wp2_with (go_at_fn 60; (with_reducible refine HC2.out.mono ?_); rintro e w1 ⟨rfl, r1⟩; have R1 := Lib.hid r1; clear r1)
        go_ret
        exact ⟨_, rfl, .inr ⟨j, rfl, hlt, by rw [HX.out]; exact HE.out, HJ.out⟩, HRw.out.trans R1.out⟩
      · rw [decide_eq_false he] at hbl
        have HE := Lib.hid he
        clear he hX hS
        have HC2 := Lib.hid (HC.out false hbl)
        clear HC hbl
        go_wp2_with (go_at_fn 60; (with_reducible refine HC2.out.mono ?_); rintro e w1 ⟨rfl, r1⟩; have R1 := Lib.hid r1; clear r1)
        go_roundw
        case rel => exact ⟨j + 1, by omega, by go_num, Lib.hid (fun k hk h => by
          rcases Nat.lt_or_ge k j with h2 | h2
          · exact HJ.out k hk h2
          · obtain rfl : k = j := by omega
            rw [HX.out]; exact HE.out), Lib.hid (HRw.out.trans R1.out)⟩
        case measure => simp [RowKit.intOf]; omega
    · obtain rfl : j = b.length := by omega
      go_wp2_with (fail)
      go_ret
      exact ⟨_, rfl, .inl ⟨rfl, at_none (fun k hk => HJ.out k hk hk)⟩, HRw.out⟩
set_option maxRecDepth 100000 in
set_option maxHeartbeats 4000000 in
/-- The landed first. -/
theorem first_slot (b : List Sl) (s : List UInt8) (S : ByteArray) (hS : B s = S) (A : Option Addr) (c : Nat) (w : World) (hr : Rel w w) (hb : RowAt cl3 3 w A b) (hl : b.length ≤ 9223372036854775807) :
    Calls Try.prog 40 #[.slice A b.length c, .string S, .func (.func 33) #[] #[]] w fun e w' => ∃ r : Int, e = .returned (.int .i64 r) ∧ Hid (AtIs b s r) ∧ Rel w w' := by
  have hI := idx_slot b s A c (w.heap.size + 1) w.heap.size ((w.alloc (.cells #[.string S] 9)).alloc (.cells #[.func (.func 33) #[] #[]] 61)) ((hr.alloc _).alloc _).self (hb.rel ((hr.alloc _).alloc _)) hl (by have h := Bk.new (w.alloc (.cells #[.string S] 9)) 61 #[.func (.func 33) #[] #[]]; rw [World.size_alloc] at h; exact h) (by rw [hS]; exact (Bk.new w 9 #[.string S]).alloc _)
  have HI := Lib.hid hI
  have HR := Lib.hid ((hr.alloc (.cells #[.string S] 9)).alloc (.cells #[.func (.func 33) #[] #[]] 61))
  clear hI hr hb hS
  go_enter Try.func40, Try.ntmps40
  go_wp2_with (go_at_call 59; (with_reducible refine HI.out.mono ?_); rintro e w1 ⟨r, rfl, ha, r1⟩; have HA := Lib.hid ha; have R1 := Lib.hid r1; clear ha r1)
  go_ret
  exact ⟨r, rfl, HA, HR.out.trans R1.out⟩
set_option maxRecDepth 100000 in
set_option maxHeartbeats 4000000 in
theorem idx_seen (b : List Sn) (s : List UInt8) (A : Option Addr) (c g1 g2 : Nat) (w : World) (hr : Rel w w) (hb : RowAt cl2 2 w A b) (hl : b.length ≤ 9223372036854775807) (h1 : Bk w g1 73 #[.func (.func 46) #[] #[]]) (h2 : Bk w g2 9 #[.string (B s)]) :
    Calls Try.prog 62 #[.slice A b.length c, .func (.func 63) #[] #[.pointer (some ⟨g1, 0, none⟩), .pointer (some ⟨g2, 0, none⟩)]] w fun e w' => ∃ r : Int, e = .returned (.int .i64 r) ∧ SnIs b s r ∧ Rel w w' := by
  have hen := enter_closs_seen
  have HB := Lib.hid hb
  have HR := Lib.hid hr
  have H1 := Lib.hid h1
  have H2 := Lib.hid h2
  clear hr h1 h2 hb
  go_enter Try.func62, Try.ntmps62
  go_wp2_with (fail)
  go_loopw [5, 8] (fun _ i wr => ∃ j : Nat, j ≤ b.length ∧ i = .int .i64 (j : Int) ∧ Hid (∀ k (hk : k < b.length), k < j → b[k].1 ≠ s) ∧ Hid (Rel w wr)) (fun _ i _ => b.length - (RowKit.intOf i).toNat)
  case atStart => exact ⟨0, by omega, rfl, Lib.hid (fun k hk h => absurd h (by omega)), HR⟩
  case round =>
    obtain ⟨j, hj, rfl, HJ, HRw⟩ := hrel
    by_cases hlt : j < b.length
    · obtain ⟨g, off, x, rfl, hgl, hx, k0, k1⟩ := seen_at HB.out HRw.out j hlt
      have HX := Lib.hid hx
      have hi : (j : Int) < (b.length : Int) := by omega
      clear hx hgl
      have hbl := bl_is x.1 s
      have H2' := H2.out
      obtain ⟨X, hX⟩ : ∃ X, B x.1 = X := ⟨_, rfl⟩
      obtain ⟨S, hS⟩ : ∃ S, B s = S := ⟨_, rfl⟩
      rw [hX] at k0
      rw [hX, hS] at hbl
      rw [hS] at H2'
      have HC := Lib.hid (fun (q : Bool) (hq : (X.toList == S.toList) = q) => closs_seen X x.2 S q hq g1 g2 wr wr HRw.out.self (H1.out.rel HRw.out) (H2'.rel HRw.out))
      clear H2'
      by_cases he : x.1 = s
      · rw [decide_eq_true he] at hbl
        have HE := Lib.hid he
        clear he hX hS
        have HC2 := Lib.hid (HC.out true hbl)
        clear HC hbl
        go_wp2_with (go_at_fn 63; (with_reducible refine HC2.out.mono ?_); rintro e w1 ⟨rfl, r1⟩; have R1 := Lib.hid r1; clear r1)
        go_ret
        exact ⟨_, rfl, .inr ⟨j, rfl, hlt, by rw [HX.out]; exact HE.out, HJ.out⟩, HRw.out.trans R1.out⟩
      · rw [decide_eq_false he] at hbl
        have HE := Lib.hid he
        clear he hX hS
        have HC2 := Lib.hid (HC.out false hbl)
        clear HC hbl
        go_wp2_with (go_at_fn 63; (with_reducible refine HC2.out.mono ?_); rintro e w1 ⟨rfl, r1⟩; have R1 := Lib.hid r1; clear r1)
        go_roundw
        case rel => exact ⟨j + 1, by omega, by go_num, Lib.hid (fun k hk h => by
          rcases Nat.lt_or_ge k j with h2 | h2
          · exact HJ.out k hk h2
          · obtain rfl : k = j := by omega
            rw [HX.out]; exact HE.out), Lib.hid (HRw.out.trans R1.out)⟩
        case measure => simp [RowKit.intOf]; omega
    · obtain rfl : j = b.length := by omega
      go_wp2_with (fail)
      go_ret
      exact ⟨_, rfl, .inl ⟨rfl, id (fun k hk => HJ.out k hk hk)⟩, HRw.out⟩
set_option maxRecDepth 100000 in
set_option maxHeartbeats 4000000 in
/-- The landed first. -/
theorem first_seen (b : List Sn) (s : List UInt8) (S : ByteArray) (hS : B s = S) (A : Option Addr) (c : Nat) (w : World) (hr : Rel w w) (hb : RowAt cl2 2 w A b) (hl : b.length ≤ 9223372036854775807) :
    Calls Try.prog 45 #[.slice A b.length c, .string S, .func (.func 46) #[] #[]] w fun e w' => ∃ r : Int, e = .returned (.int .i64 r) ∧ Hid (SnIs b s r) ∧ Rel w w' := by
  have hI := idx_seen b s A c (w.heap.size + 1) w.heap.size ((w.alloc (.cells #[.string S] 9)).alloc (.cells #[.func (.func 46) #[] #[]] 73)) ((hr.alloc _).alloc _).self (hb.rel ((hr.alloc _).alloc _)) hl (by have h := Bk.new (w.alloc (.cells #[.string S] 9)) 73 #[.func (.func 46) #[] #[]]; rw [World.size_alloc] at h; exact h) (by rw [hS]; exact (Bk.new w 9 #[.string S]).alloc _)
  have HI := Lib.hid hI
  have HR := Lib.hid ((hr.alloc (.cells #[.string S] 9)).alloc (.cells #[.func (.func 46) #[] #[]] 73))
  clear hI hr hb hS
  go_enter Try.func45, Try.ntmps45
  go_wp2_with (go_at_call 62; (with_reducible refine HI.out.mono ?_); rintro e w1 ⟨r, rfl, ha, r1⟩; have HA := Lib.hid ha; have R1 := Lib.hid r1; clear ha r1)
  go_ret
  exact ⟨r, rfl, HA, HR.out.trans R1.out⟩
end Go.Proofs.Ytfplhpkolcgpiaa
