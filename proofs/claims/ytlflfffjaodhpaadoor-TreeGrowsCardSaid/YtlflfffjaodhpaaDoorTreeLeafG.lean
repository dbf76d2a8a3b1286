/- What the landed Print and Right tell: all that the laws ask of the program. -/
import Derived.Test.YtlflfffjaodhpaaDoorTreeLeafF
import Derived.Test.YtlflfffjaodhpaaDoorTreeAwake
namespace Go.Proofs.YtlflfffjaodhpaaDoor
open Go.RowKit Go.Lib
set_option linter.unusedVariables false
set_option linter.unusedSimpArgs false

theorem pr_new (w : World) (o : Obj) : Pr w.heap.size (w.heap.size + 1) [] 0 ((w.alloc o).alloc (.cells #[.pointer none, .slice none 0 0, .int .i64 0] 55)) := by
  have hb := Bk.new (w.alloc o) 55 #[.pointer none, .slice none 0 0, .int .i64 0]
  rw [World.size_alloc] at hb
  exact .inl ⟨by omega, _, hb, World.ownsRowF_of (World.ownsRow_nil _ _ _ _), by simp [Value.ownBlock]⟩
theorem right_of {x : Ex} (hc : isCond x.k = false) : rightX x = true ↔ fine (32 - 0) x = true ∧ ([] : List UInt8).length + (text x).length ≤ 2000 := by
  simp only [rightX, hc, Bool.and_eq_true, decide_eq_true_eq, List.length_nil, Nat.sub_zero, Nat.zero_add, Bool.not_false, and_true]
  constructor
  · rintro ⟨⟨a, _⟩, b⟩; exact ⟨a, b⟩
  · rintro ⟨a, b⟩; exact ⟨⟨a, by have := text_more x 32 a; omega⟩, b⟩
set_option maxRecDepth 100000 in
set_option maxHeartbeats 4000000 in
theorem tprint_any : PrintOk := fun x S e w0 w hr h hz => by
  have HR := Lib.hid hr
  obtain ⟨k, n, nm, A, m, c⟩ := e
  have hke : x.k = k := h.kind
  have HB := Lib.hid ((Bk.new w 26 #[.int .i64 k, .int .i64 n, .string (B nm), .slice A m c]).alloc (.cells #[.pointer none, .slice none 0 0, .int .i64 0] 55))
  have HA := Lib.hid ((hr.self.alloc (.cells #[.int .i64 k, .int .i64 n, .string (B nm), .slice A m c] 26)).alloc (.cells #[.pointer none, .slice none 0 0, .int .i64 0] 55))
  have HP := Lib.hid (pr_new w (.cells #[.int .i64 k, .int .i64 n, .string (B nm), .slice A m c] 26))
  obtain ⟨⟨c0, c1, c2, c3⟩, _⟩ := HB.out.four
  obtain ⟨bc, hbc⟩ : ∃ b, isCond k = b := ⟨_, rfl⟩
  have HBc := Lib.hid hbc
  cases bc with
  | true =>
    have HX := Lib.hid (show prT x = [] ∧ prE x = 1 by
      have : rightX x = false := by unfold rightX; rw [hke, hbc]; simp
      unfold prT prE; rw [this]; exact ⟨rfl, rfl⟩)
    clear h hbc
    go_enter Tryd.func12, Tryd.ntmps12
    go_wp2_with (go_at_call 28; (with_reducible refine (tcond_as k n (B nm) A m c true HBc _ _ HA.out.self).mono ?_); rintro e w2 ⟨rfl, h2⟩; obtain ⟨⟨d0, d1, d2, d3⟩, _⟩ := (HB.out.rel h2).four)
    go_ret2
    exact ⟨by rw [HX.out.1, HX.out.2]; rfl, (HR.out.trans HA.out).trans h2⟩
  | false =>
    obtain ⟨t, ht⟩ : ∃ t, rightX x = t := ⟨_, rfl⟩
    have hti : t = true ↔ fine (32 - 0) x = true ∧ ([] : List UInt8).length + (text x).length ≤ 2000 := by rw [← ht]; exact right_of (by rw [hke]; exact hbc)
    have HC := Lib.hid (fun (w2 : World) (h2 : Rel w w2) (hp : Pr w.heap.size (w.heap.size + 1) [] 0 w2) => pexpr_any x S (k, n, nm, A, m, c) (w.heap.size + 1) [] 0 t w w2 h2 h hp (by omega) (by simp) hz (Lib.hid hti))
    have HX := Lib.hid (show prT x = (if t then text x else []) ∧ prE x = (if t then 0 else 1) by unfold prT prE; rw [ht]; exact ⟨rfl, rfl⟩)
    have HNe := Lib.hid (show t = true → [] ++ text x ≠ [] from fun e => by
      have h1 := text_more x 32 (hti.1 e).1
      have h2 := size_pos x
      intro h
      rw [List.nil_append] at h
      rw [h, List.length_nil] at h1
      omega)
    clear h hbc hti ht
    cases t with
    | false =>
      go_enter Tryd.func12, Tryd.ntmps12
      go_wp2_with (first
        | (go_at_call 28; (with_reducible refine (tcond_as k n (B nm) A m c false HBc _ _ HA.out.self).mono ?_); rintro e w2 ⟨rfl, h2⟩; obtain ⟨⟨d0, d1, d2, d3⟩, _⟩ := (HB.out.rel h2).four)
        | (go_at_call 29; (with_reducible refine (HC.out _ (HA.out.trans h2) (HP.out.rel h2)).mono ?_); rintro e w3 ⟨rfl, p3, r3, k3⟩))
      go_ret2
      exact ⟨by rw [HX.out.1, HX.out.2]; rfl, HR.out.trans r3⟩
    | true =>
      go_enter Tryd.func12, Tryd.ntmps12
      go_wp2_with (first
        | (go_at_call 28; (with_reducible refine (tcond_as k n (B nm) A m c false HBc _ _ HA.out.self).mono ?_); rintro e w2 ⟨rfl, h2⟩; obtain ⟨⟨d0, d1, d2, d3⟩, _⟩ := (HB.out.rel h2).four)
        | (go_at_call 29; (with_reducible refine (HC.out _ (HA.out.trans h2) (HP.out.rel h2)).mono ?_); rintro e w3 ⟨rfl, p3, r3, k3⟩)
        | (go_at_call 30; (with_reducible refine (string_any (w.heap.size + 1) ([] ++ text x) 0 w _ r3 (by first | exact p3 rfl | exact p3 trivial) (by first | exact HNe.out rfl | exact HNe.out trivial)).mono ?_); rintro e w4 ⟨rfl, r4⟩))
      go_ret2
      exact ⟨by rw [HX.out.1, HX.out.2]; rfl, HR.out.trans r4⟩
set_option maxRecDepth 100000 in
set_option maxHeartbeats 2000000 in
theorem tright_any : RightOk := fun x S e w0 w hr h hz => by
  have HR := Lib.hid hr
  obtain ⟨k, n, nm, A, m, c⟩ := e
  have HA := Lib.hid (hr.self.alloc (.cells #[.int .i64 k, .int .i64 n, .string (B nm), .slice A m c] 26))
  have HP := Lib.hid (fun (w' : World) (h' : Rel w w') => tprint_any x S (k, n, nm, A, m, c) w' w' (hr.trans h').self (h.rel h') hz)
  obtain ⟨T, hT⟩ : ∃ T, B (prT x) = T := ⟨_, rfl⟩
  rw [hT] at HP
  clear hT
  cases hx : rightX x
  · have he : prE x = 1 := by unfold prE; rw [hx]; rfl
    rw [he] at HP
    clear h he hx
    go_enter Tryd.func14, Tryd.ntmps14
    go_wp2_with (go_at_call 12; (with_reducible refine (HP.out _ HA.out).mono ?_); rintro e w2 ⟨rfl, h2⟩)
    go_ret
    exact ⟨rfl, (HR.out.trans HA.out).trans h2⟩
  · have he : prE x = 0 := by unfold prE; rw [hx]; rfl
    rw [he] at HP
    clear h he hx
    go_enter Tryd.func14, Tryd.ntmps14
    go_wp2_with (go_at_call 12; (with_reducible refine (HP.out _ HA.out).mono ?_); rintro e w2 ⟨rfl, h2⟩)
    go_ret
    exact ⟨rfl, (HR.out.trans HA.out).trans h2⟩
theorem treeOk : TreeOk := ⟨tprint_any, tright_any, fun x S e w0 w hr h hz => tsize_any x S e w0 w hr h (by omega), fun x S e w0 w hr h hz => tdeep_any x S e w0 w hr h (by omega), fun x y S S' e e' b w0 w hr h h' hz hz' hb => tsame_any x y S S' e e' b w0 w hr h h' (by omega) (by omega) hb⟩
end Go.Proofs.YtlflfffjaodhpaaDoor
