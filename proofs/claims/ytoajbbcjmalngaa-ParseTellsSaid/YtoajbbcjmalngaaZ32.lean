/- Reading the document's own parse: where an expression is none; Reading the document's own parse: words alone, and amounts; Reading the document's own parse: a call being read. -/
import Derived.Test.YtoajbbcjmalngaaZ31
import Derived.Test.YtoajbbcjmalngaaZ15
import Derived.Test.YtoajbbcjmalngaaZ05
namespace Go.Proofs.Ytoajbbcjmalngaa
open Go.RowKit Go.Lib
set_option linter.unusedVariables false
set_option linter.unusedSimpArgs false

theorem StR.err {V : World} {A : Option Addr} {c : Nat} {all : List Tok} {w : World} {g : Nat} {s : PS} (h : StR V A c all w g s) : w.cell? ⟨g, 2, none⟩ = some (.int .i64 s.2) := by
  obtain ⟨j, h1, h2, h3, h4, h5, h6, h7⟩ := h; exact h5.three.1.2.2
theorem Rel.right {w w' : World} (h : Rel w w') : Rel w' w' := (Rel.self h)
/-- What 'expr' tells, where so many may still stand in one another. -/
def ExprS (V : World) (A : Option Addr) (c : Nat) (all : List Tok) (d : Nat) : Prop := ∀ (cb : Bool) (s : PS) (g : Nat) (w : World), StR V A c all w g s →
  Calls Try.prog 22 #[.pointer (some ⟨g, 0, none⟩), .int .i64 (32 - (d : Int)), .bool cb] w fun e w' => ∃ v : El, e = .returned (EV v) ∧ ExAt (fun k => w.heap.size ≤ k) w' v (exprR d cb s).1 ∧ StR V A c all w' g (exprR d cb s).2 ∧ w.grownBy w' (some g)
theorem wrongR_81 (ts : List Tok) (e : Int) : ∃ e3, wrongR 81 (ts, e) = (ts, e3) ∧ (e3 == 0) = false := by
  unfold wrongR
  by_cases h : e = 0
  · exact ⟨81, by rw [if_pos h], rfl⟩
  · exact ⟨e, by rw [if_neg h], by simpa using h⟩
set_option maxRecDepth 100000 in
set_option maxHeartbeats 4000000 in
theorem rexpr_zero (V : World) (A : Option Addr) (c : Nat) (all : List Tok) : ExprS V A c all 0 := fun cb s g w h => by
  obtain ⟨ts, e⟩ := s
  have HS := Lib.hid h
  have hgl := h.lt
  have hVw : V.heap.size ≤ w.heap.size := by obtain ⟨_, a, _⟩ := h; exact a.size
  have hA : Rel w (w.alloc (.cells #[.int .i64 0, .int .i64 0, .string ⟨#[]⟩, .slice none 0 0] 30)) := by obtain ⟨_, a, _⟩ := h; exact a.self.alloc _
  have HN := Lib.hid (Bk.new w 30 #[.int .i64 0, .int .i64 0, .string ⟨#[]⟩, .slice none 0 0])
  have HS1 := Lib.hid (h.rel hA)
  have HG1 := Lib.hid (grown_rel (some g) hA)
  obtain ⟨k0, hk0⟩ : ∃ k0, kindT cb (hdT ts) = k0 := ⟨_, rfl⟩
  have HKi : Hid (∀ (w' : World) (s' : PS), s'.1 = ts → StR V A c all w' g s' → Calls Try.prog 40 #[.pointer (some ⟨g, 0, none⟩), .bool cb] w' fun e w'' => e = .returned (.int .i64 k0) ∧ Rel w' w'') := Lib.hid (fun w' s' h1 h2 => by
    have := rkind_any V A c all g s' cb w' h2
    rw [h1, hk0] at this
    exact this)
  obtain ⟨e1, hw81, he1⟩ := wrongR_81 ts e
  have HW81 := Lib.hid hw81
  have HW80 := Lib.hid (show wrongR 80 (ts, e1) = (ts, e1) from wrongR_bad (by simpa using he1))
  have HF := Lib.hid (show exprR 0 cb (ts, e) = (zE, (ts, e1)) by unfold exprR; rw [hw81])
  have hd0 : (32 - ((0 : Nat) : Int)) = 32 := rfl
  rw [hd0]
  clear hk0 hw81 h hA
  by_cases hk : k0 = 0
  · subst hk
    go_enter Try.func22, Try.ntmps22
    go_wp2_with (first
      | (go_at_call 39; (with_reducible refine (rwrong_any V A c all g (ts, e) 81 _ HS1.out).mono ?_); rintro e' w2 ⟨rfl, s2, g2, z2⟩; rw [HW81.out] at s2; have S1 := Lib.hid s2; have N1 := Lib.hid (HN.out.grown g2 (fun e => by injection e; omega)); have G1 := Lib.hid (grown_trans HG1.out g2))
      | (go_at_call 40; (with_reducible refine (HKi.out _ _ rfl S1.out).mono ?_); rintro e w3 ⟨rfl, h3⟩; have hz3 := h3.size; have h4 := h3.trans ((Rel.right h3).alloc (.cells #[.int .i64 0, .int .i64 0, .string ⟨#[]⟩, .slice none 0 0] 30)); have HNW := Lib.hid (N1.out.rel h4); have HSW := Lib.hid (S1.out.rel h4); have HGW := Lib.hid (grown_trans G1.out (grown_rel (some g) h4)); have e2 := HSW.out.err; obtain ⟨⟨r0, r1, r2, r3⟩, q0, q1, q2, q3⟩ := HNW.out.four)
      | (go_at_call 39; (with_reducible refine (rwrong_any V A c all g (ts, e1) 80 _ HSW.out).mono ?_); rintro e w4 ⟨rfl, s4, g4, z4⟩; rw [HW80.out] at s4; have e4 := s4.err; have HS4 := Lib.hid s4; have HN4 := Lib.hid (HNW.out.grown g4 (fun e => by injection e; omega)); have HG4 := Lib.hid (grown_trans HGW.out g4); obtain ⟨⟨p0, p1, p2, p3⟩, v0, v1, v2, v3⟩ := HN4.out.four))
    obtain ⟨⟨y0, y1, y2, y3⟩, _⟩ := (HN4.out.put4 (.int .i64 0) (.int .i64 0) (.string ⟨#[]⟩) (.slice none 0 0)).four
    have gp := put4_grown w4 w.heap.size (.int .i64 0) (.int .i64 0) (.string ⟨#[]⟩) (.slice none 0 0)
    refine bodyPost_ret (v := EV (0, 0, [], none, 0, 0)) (by simp [results, Try.results22, go_sem, y0, y1, y2, y3]; rfl) rfl ⟨_, rfl, ?_, ?_, ?_⟩
    · rw [HF.out]; exact ExAt.leaf _ _ 0 0 [] none 0 ⟨by decide, by decide⟩ ⟨by decide, by decide⟩ (by simp)
    · rw [HF.out]; exact HS4.out.grown gp (fun e => by injection e; omega) (fun k e => by cases e; exact hVw)
    · exact grown_of HG4.out gp (fun k e => by cases e; exact Nat.le_refl _)
  · have hk' : (k0 == 0) = false := by simpa using hk
    go_enter Try.func22, Try.ntmps22
    go_wp2_with (first
      | (go_at_call 39; (with_reducible refine (rwrong_any V A c all g (ts, e) 81 _ HS1.out).mono ?_); rintro e' w2 ⟨rfl, s2, g2, z2⟩; rw [HW81.out] at s2; have S1 := Lib.hid s2; have N1 := Lib.hid (HN.out.grown g2 (fun e => by injection e; omega)); have G1 := Lib.hid (grown_trans HG1.out g2))
      | (go_at_call 40; (with_reducible refine (HKi.out _ _ rfl S1.out).mono ?_); rintro e w3 ⟨rfl, h3⟩; have hz3 := h3.size; have h4 := h3.trans ((Rel.right h3).alloc (.cells #[.int .i64 k0, .int .i64 0, .string ⟨#[]⟩, .slice none 0 0] 30)); have HNW := Lib.hid (N1.out.rel h4); have HSW := Lib.hid (S1.out.rel h4); have HGW := Lib.hid (grown_trans G1.out (grown_rel (some g) h4)); have e2 := HSW.out.err; obtain ⟨⟨r0, r1, r2, r3⟩, q0, q1, q2, q3⟩ := HNW.out.four))
    obtain ⟨⟨y0, y1, y2, y3⟩, _⟩ := (HNW.out.put4 (.int .i64 0) (.int .i64 0) (.string ⟨#[]⟩) (.slice none 0 0)).four
    have gp := put4_grown (w3.alloc (.cells #[.int .i64 k0, .int .i64 0, .string ⟨#[]⟩, .slice none 0 0] 30)) w.heap.size (.int .i64 0) (.int .i64 0) (.string ⟨#[]⟩) (.slice none 0 0)
    refine bodyPost_ret (v := EV (0, 0, [], none, 0, 0)) (by simp [results, Try.results22, go_sem, y0, y1, y2, y3]; rfl) rfl ⟨_, rfl, ?_, ?_, ?_⟩
    · rw [HF.out]; exact ExAt.leaf _ _ 0 0 [] none 0 ⟨by decide, by decide⟩ ⟨by decide, by decide⟩ (by simp)
    · rw [HF.out]; exact HSW.out.grown gp (fun e => by injection e; omega) (fun k e => by cases e; exact hVw)
    · exact grown_of HGW.out gp (fun k e => by cases e; exact Nat.le_refl _)
set_option maxRecDepth 100000 in
set_option maxHeartbeats 4000000 in
theorem rexpr_stop (V : World) (A : Option Addr) (c : Nat) (all : List Tok) (d : Nat) (hd : d + 1 ≤ 32) (cb : Bool) (s : PS) (g : Nat) (w : World) (h : StR V A c all w g s) (hs : s.2 ≠ 0 ∨ kindT cb (hdT s.1) = 0) :
    Calls Try.prog 22 #[.pointer (some ⟨g, 0, none⟩), .int .i64 (32 - ((d + 1 : Nat) : Int)), .bool cb] w fun e w' => ∃ v : El, e = .returned (EV v) ∧ ExAt (fun k => w.heap.size ≤ k) w' v (exprR (d + 1) cb s).1 ∧ StR V A c all w' g (exprR (d + 1) cb s).2 ∧ w.grownBy w' (some g) := by
  obtain ⟨ts, e1⟩ := s
  have HS := Lib.hid h
  have hgl := h.lt
  have hVw : V.heap.size ≤ w.heap.size := by obtain ⟨_, a, _⟩ := h; exact a.size
  have hA : Rel w (w.alloc (.cells #[.int .i64 0, .int .i64 0, .string ⟨#[]⟩, .slice none 0 0] 30)) := by obtain ⟨_, a, _⟩ := h; exact a.self.alloc _
  have HN := Lib.hid (Bk.new w 30 #[.int .i64 0, .int .i64 0, .string ⟨#[]⟩, .slice none 0 0])
  have HS1 := Lib.hid (h.rel hA)
  have HG1 := Lib.hid (grown_rel (some g) hA)
  obtain ⟨k0, hk0⟩ : ∃ k0, kindT cb (hdT ts) = k0 := ⟨_, rfl⟩
  have HKi : Hid (∀ (w' : World) (s' : PS), s'.1 = ts → StR V A c all w' g s' → Calls Try.prog 40 #[.pointer (some ⟨g, 0, none⟩), .bool cb] w' fun e w'' => e = .returned (.int .i64 k0) ∧ Rel w' w'') := Lib.hid (fun w' s' h1 h2 => by
    have := rkind_any V A c all g s' cb w' h2
    rw [h1, hk0] at this
    exact this)
  obtain ⟨e2, hw80, he2⟩ := wrongR_80 ts e1
  have HW80 := Lib.hid hw80
  obtain ⟨D, hD⟩ : ∃ D : Int, 32 - ((d + 1 : Nat) : Int) = D := ⟨_, rfl⟩
  have hD' : ¬ (32 ≤ D) := by omega
  have HF := Lib.hid (show exprR (d + 1) cb (ts, e1) = (zE, (ts, e2)) by
    unfold exprR
    unfold wrongR at hw80
    by_cases he : e1 = 0
    · rw [if_pos he] at hw80
      rw [if_neg (fun hh => hh he)]
      simp only at hs ⊢
      rw [if_pos (by rcases hs with h | h; exact absurd he h; exact h)]
      injection hw80 with a b; rw [b]
    · rw [if_neg he] at hw80
      rw [if_pos he]
      injection hw80 with a b; rw [b])
  have S1 := HS1
  have N1 := HN
  have G1 := HG1
  rw [hD]
  by_cases hk : k0 = 0
  · subst hk
    clear hk0 hw80 h hA hD hs
    go_enter Try.func22, Try.ntmps22
    go_wp2_with (first
      | (go_at_call 40; (with_reducible refine (HKi.out _ _ rfl S1.out).mono ?_); rintro e w3 ⟨rfl, h3⟩; have hz3 := h3.size; have h4 := h3.trans ((Rel.right h3).alloc (.cells #[.int .i64 0, .int .i64 0, .string ⟨#[]⟩, .slice none 0 0] 30)); have HNW := Lib.hid (N1.out.rel h4); have HSW := Lib.hid (S1.out.rel h4); have HGW := Lib.hid (grown_trans G1.out (grown_rel (some g) h4)); have e2' := HSW.out.err; obtain ⟨⟨r0, r1, r2, r3⟩, q0, q1, q2, q3⟩ := HNW.out.four)
      | (go_at_call 39; (with_reducible refine (rwrong_any V A c all g (ts, e1) 80 _ HSW.out).mono ?_); rintro e w4 ⟨rfl, s4, g4, z4⟩; rw [HW80.out] at s4; have e4 := s4.err; have HS4 := Lib.hid s4; have HN4 := Lib.hid (HNW.out.grown g4 (fun e => by injection e; omega)); have HG4 := Lib.hid (grown_trans HGW.out g4); obtain ⟨⟨p0, p1, p2, p3⟩, v0, v1, v2, v3⟩ := HN4.out.four))
    obtain ⟨⟨y0, y1, y2, y3⟩, _⟩ := (HN4.out.put4 (.int .i64 0) (.int .i64 0) (.string ⟨#[]⟩) (.slice none 0 0)).four
    have gp := put4_grown w4 w.heap.size (.int .i64 0) (.int .i64 0) (.string ⟨#[]⟩) (.slice none 0 0)
    refine bodyPost_ret (v := EV (0, 0, [], none, 0, 0)) (by simp [results, Try.results22, go_sem, y0, y1, y2, y3]; rfl) rfl ⟨_, rfl, ?_, ?_, ?_⟩
    · rw [HF.out]; exact ExAt.leaf _ _ 0 0 [] none 0 ⟨by decide, by decide⟩ ⟨by decide, by decide⟩ (by simp)
    · rw [HF.out]; exact HS4.out.grown gp (fun e => by injection e; omega) (fun k e => by cases e; exact hVw)
    · exact grown_of HG4.out gp (fun k e => by cases e; exact Nat.le_refl _)
  · have hk' : (k0 == 0) = false := by simpa using hk
    have he1 : e1 ≠ 0 := by
      rcases hs with h | h
      · exact h
      · simp only at h; rw [hk0] at h; exact absurd h hk
    obtain rfl : e2 = e1 := by
      have := hw80; unfold wrongR at this; rw [if_neg he1] at this; injection this with a b; exact b.symm
    clear hk0 hw80 h hA hD hs he1
    go_enter Try.func22, Try.ntmps22
    go_wp2_with (go_at_call 40; (with_reducible refine (HKi.out _ _ rfl S1.out).mono ?_); rintro e w3 ⟨rfl, h3⟩; have hz3 := h3.size; have h4 := h3.trans ((Rel.right h3).alloc (.cells #[.int .i64 k0, .int .i64 0, .string ⟨#[]⟩, .slice none 0 0] 30)); have HNW := Lib.hid (N1.out.rel h4); have HSW := Lib.hid (S1.out.rel h4); have HGW := Lib.hid (grown_trans G1.out (grown_rel (some g) h4)); have e2' := HSW.out.err; obtain ⟨⟨r0, r1, r2, r3⟩, q0, q1, q2, q3⟩ := HNW.out.four)
    obtain ⟨⟨y0, y1, y2, y3⟩, _⟩ := (HNW.out.put4 (.int .i64 0) (.int .i64 0) (.string ⟨#[]⟩) (.slice none 0 0)).four
    have gp := put4_grown (w3.alloc (.cells #[.int .i64 k0, .int .i64 0, .string ⟨#[]⟩, .slice none 0 0] 30)) w.heap.size (.int .i64 0) (.int .i64 0) (.string ⟨#[]⟩) (.slice none 0 0)
    refine bodyPost_ret (v := EV (0, 0, [], none, 0, 0)) (by simp [results, Try.results22, go_sem, y0, y1, y2, y3]; rfl) rfl ⟨_, rfl, ?_, ?_, ?_⟩
    · rw [HF.out]; exact ExAt.leaf _ _ 0 0 [] none 0 ⟨by decide, by decide⟩ ⟨by decide, by decide⟩ (by simp)
    · rw [HF.out]; exact HSW.out.grown gp (fun e => by injection e; omega) (fun k e => by cases e; exact hVw)
    · exact grown_of HGW.out gp (fun k e => by cases e; exact Nat.le_refl _)
end Go.Proofs.Ytoajbbcjmalngaa

namespace Go.Proofs.Ytoajbbcjmalngaa
open Go.RowKit Go.Lib
set_option linter.unusedVariables false
set_option linter.unusedSimpArgs false

theorem StR.head {V : World} {A : Option Addr} {c : Nat} {all : List Tok} {w : World} {g : Nat} {s : PS} (h : StR V A c all w g s) : i64 (hdT s.1).1 ∧ i64 (hdT s.1).2.2.1 ∧ (hdT s.1).2.1.length ≤ 100 ∧ ((hdT s.1).1 = 1 → (hdT s.1).2.1 ≠ []) := by
  obtain ⟨j, h1, h2, h3, h4, h5, h6, h7⟩ := h
  rw [h6, hd_drop h7]
  exact h4.1 _ (List.getElem_mem h7)
theorem kind_amount {cb : Bool} {t : Tok} (h : kindT cb t = 4) (hn : t.1 = 1 → t.2.1 ≠ []) : t.1 = 3 := by
  rcases (kind_tok (by rw [h]; decide)).1 h with h3 | h1
  · exact h3
  · unfold kindT at h
    rw [if_neg (fun hh => by rw [h1] at hh; exact absurd hh.1 (by decide)), if_pos h1] at h
    exact absurd h (kindW_4 cb _ (hn h1))
set_option maxRecDepth 100000 in
set_option maxHeartbeats 4000000 in
theorem rexpr_money (V : World) (A : Option Addr) (c : Nat) (all : List Tok) (d : Nat) (hd : d + 1 ≤ 32) (cb : Bool) (ts : List Tok) (g : Nat) (w : World) (h : StR V A c all w g (ts, 0)) (hs : kindT cb (hdT ts) = 4) :
    Calls Try.prog 22 #[.pointer (some ⟨g, 0, none⟩), .int .i64 (32 - ((d + 1 : Nat) : Int)), .bool cb] w fun e w' => ∃ v : El, e = .returned (EV v) ∧ ExAt (fun k => w.heap.size ≤ k) w' v (exprR (d + 1) cb (ts, 0)).1 ∧ StR V A c all w' g (exprR (d + 1) cb (ts, 0)).2 ∧ w.grownBy w' (some g) := by
  have HS := Lib.hid h
  have hgl := h.lt
  have hVw : V.heap.size ≤ w.heap.size := by obtain ⟨_, a, _⟩ := h; exact a.size
  have hA : Rel w (w.alloc (.cells #[.int .i64 0, .int .i64 0, .string ⟨#[]⟩, .slice none 0 0] 30)) := by obtain ⟨_, a, _⟩ := h; exact a.self.alloc _
  have HN := Lib.hid (Bk.new w 30 #[.int .i64 0, .int .i64 0, .string ⟨#[]⟩, .slice none 0 0])
  have HS1 := Lib.hid (h.rel hA)
  have HG1 := Lib.hid (grown_rel (some g) hA)
  obtain ⟨k0, hk0⟩ : ∃ k0, kindT cb (hdT ts) = k0 := ⟨_, rfl⟩
  have HKi : Hid (∀ (w' : World) (s' : PS), s'.1 = ts → StR V A c all w' g s' → Calls Try.prog 40 #[.pointer (some ⟨g, 0, none⟩), .bool cb] w' fun e w'' => e = .returned (.int .i64 k0) ∧ Rel w' w'') := Lib.hid (fun w' s' h1 h2 => by
    have := rkind_any V A c all g s' cb w' h2
    rw [h1, hk0] at this
    exact this)
  have hzA : (w.alloc (.cells #[.int .i64 0, .int .i64 0, .string ⟨#[]⟩, .slice none 0 0] 30)).heap.size = w.heap.size + 1 := World.size_alloc ..
  have hh := h.head
  have h3 := kind_amount hs hh.2.2.2
  obtain ⟨N, hN⟩ : ∃ N, (hdT ts).2.2.1 = N := ⟨_, rfl⟩
  have HNi := Lib.hid (show i64 N by rw [← hN]; exact hh.2.1)
  obtain ⟨t, ht⟩ : ∃ t, hdT ts = t := ⟨_, rfl⟩
  have HTk := Lib.hid (show takeR 3 [] (ts, 0) = ((3, t.2.1, N, t.2.2.2), (ts.tail, 0)) by rw [takeR_ok h3 (by decide), ← ht, ← hN, ← h3])
  have HTc : Hid (∀ w' : World, StR V A c all w' g (ts, 0) → Calls Try.prog 23 #[.pointer (some ⟨g, 0, none⟩), .int .i64 3, .string ⟨#[]⟩] w' fun e w'' => e = .returned (.agg #[.int .i64 3, .string (B t.2.1), .int .i64 N, .int .i64 t.2.2.2]) ∧ StR V A c all w'' g (ts.tail, 0) ∧ w'.grownBy w'' (some g)) := Lib.hid (fun w' h' => by
    have := rtake_any V A c all g (ts, 0) 3 [] ⟨#[]⟩ (Lib.hid rfl) w' h'
    rw [HTk.out] at this
    exact this)
  have HF := Lib.hid (show exprR (d + 1) cb (ts, 0) = (.mk 4 N [] [], (ts.tail, 0)) by
    unfold exprR
    rw [if_neg (fun hh => hh rfl), if_neg (by rw [hs]; decide), if_pos hs]
    exact congrArg (fun n => (Ex.mk 4 n [] [], (ts.tail, (0 : Int)))) hN)
  obtain ⟨D, hD⟩ : ∃ D : Int, 32 - ((d + 1 : Nat) : Int) = D := ⟨_, rfl⟩
  have hD' : ¬ (32 ≤ D) := by omega
  have S1 := HS1
  have N1 := HN
  have G1 := HG1
  rw [hD]
  obtain rfl : k0 = 4 := by rw [← hk0]; exact hs
  clear hk0 h hA hD hs hh h3 hN ht
  have hfd : ∀ w : World, (Instr.field 56 (.agg #[.int .i64 3, .string (B t.2.1), .int .i64 N, .int .i64 t.2.2.2]) 2).run Try.prog w = .ok (.int .i64 N) w := fun _ => by kernel_rfl
  go_enter Try.func22, Try.ntmps22
  go_wp2_with (first
    | (go_at_call 40; (with_reducible refine (HKi.out _ _ rfl S1.out).mono ?_); rintro e w3 ⟨rfl, h3⟩; have hz3 := h3.size; have h4 := h3.trans ((Rel.right h3).alloc (.cells #[.int .i64 4, .int .i64 0, .string ⟨#[]⟩, .slice none 0 0] 30)); have HNW := Lib.hid (N1.out.rel h4); have HSW := Lib.hid (S1.out.rel h4); have HGW := Lib.hid (grown_trans G1.out (grown_rel (some g) h4)); have e2' := HSW.out.err; obtain ⟨⟨r0, r1, r2, r3⟩, q0, q1, q2, q3⟩ := HNW.out.four; have hne1 : ¬ w3.heap.size = w.heap.size := (by omega); have hne2 : ¬ w.heap.size = w3.heap.size := (by omega); have HX := Lib.hid (Bk.new w3 30 #[.int .i64 4, .int .i64 0, .string ⟨#[]⟩, .slice none 0 0]))
    | (go_at_call 23; (with_reducible refine (HTc.out _ HSW.out).mono ?_); rintro e w4 ⟨rfl, s4, g4⟩; have HS4 := Lib.hid s4; have HN4 := Lib.hid (HNW.out.grown g4 (fun e => by injection e; omega)); have HG4 := Lib.hid (grown_trans HGW.out g4); have HX4 := Lib.hid (HX.out.grown g4 (fun e => by injection e; omega)); obtain ⟨⟨p0, p1, p2, p3⟩, v0, v1, v2, v3⟩ := HN4.out.four; obtain ⟨⟨x0, x1, x2, x3⟩, u0, u1, u2, u3⟩ := HX4.out.four))
  have gs := set_grown w4 w3.heap.size 1 (.int .i64 N)
  have hz4 := HG4.out.size
  obtain ⟨⟨y0, y1, y2, y3⟩, _⟩ := ((HN4.out.far (p := ⟨w3.heap.size, 1, none⟩) (by simp only; omega) (.int .i64 N)).put4 (.int .i64 4) (.int .i64 N) (.string ⟨#[]⟩) (.slice none 0 0)).four
  have gp := put4_grown (w4.setCell ⟨w3.heap.size, 1, none⟩ (.int .i64 N)) w.heap.size (.int .i64 4) (.int .i64 N) (.string ⟨#[]⟩) (.slice none 0 0)
  refine bodyPost_ret (v := EV (4, N, [], none, 0, 0)) (by simp [results, Try.results22, go_sem, y0, y1, y2, y3]; rfl) rfl ⟨_, rfl, ?_, ?_, ?_⟩
  · rw [HF.out]; exact ExAt.leaf _ _ 4 N [] none 0 (by first | exact HNi.out | exact ⟨by decide, by decide⟩) (by first | exact HNi.out | exact ⟨by decide, by decide⟩) (by simp)
  · rw [HF.out]; exact (HS4.out.grown gs (fun e => by injection e; omega) (fun k e => by cases e; omega)).grown gp (fun e => by injection e; omega) (fun k e => by cases e; exact hVw)
  · exact grown_of (grown_of HG4.out gs (fun k e => by cases e; omega)) gp (fun k e => by cases e; exact Nat.le_refl _)
set_option maxRecDepth 100000 in
set_option maxHeartbeats 4000000 in
theorem rexpr_leaf (V : World) (A : Option Addr) (c : Nat) (all : List Tok) (d : Nat) (hd : d + 1 ≤ 32) (cb : Bool) (ts : List Tok) (g : Nat) (w : World) (h : StR V A c all w g (ts, 0)) (hs : kindT cb (hdT ts) = 1 ∨ kindT cb (hdT ts) = 2) :
    Calls Try.prog 22 #[.pointer (some ⟨g, 0, none⟩), .int .i64 (32 - ((d + 1 : Nat) : Int)), .bool cb] w fun e w' => ∃ v : El, e = .returned (EV v) ∧ ExAt (fun k => w.heap.size ≤ k) w' v (exprR (d + 1) cb (ts, 0)).1 ∧ StR V A c all w' g (exprR (d + 1) cb (ts, 0)).2 ∧ w.grownBy w' (some g) := by
  have HS := Lib.hid h
  have hgl := h.lt
  have hVw : V.heap.size ≤ w.heap.size := by obtain ⟨_, a, _⟩ := h; exact a.size
  have hA : Rel w (w.alloc (.cells #[.int .i64 0, .int .i64 0, .string ⟨#[]⟩, .slice none 0 0] 30)) := by obtain ⟨_, a, _⟩ := h; exact a.self.alloc _
  have HN := Lib.hid (Bk.new w 30 #[.int .i64 0, .int .i64 0, .string ⟨#[]⟩, .slice none 0 0])
  have HS1 := Lib.hid (h.rel hA)
  have HG1 := Lib.hid (grown_rel (some g) hA)
  obtain ⟨k0, hk0⟩ : ∃ k0, kindT cb (hdT ts) = k0 := ⟨_, rfl⟩
  have HKi : Hid (∀ (w' : World) (s' : PS), s'.1 = ts → StR V A c all w' g s' → Calls Try.prog 40 #[.pointer (some ⟨g, 0, none⟩), .bool cb] w' fun e w'' => e = .returned (.int .i64 k0) ∧ Rel w' w'') := Lib.hid (fun w' s' h1 h2 => by
    have := rkind_any V A c all g s' cb w' h2
    rw [h1, hk0] at this
    exact this)
  have hzA : (w.alloc (.cells #[.int .i64 0, .int .i64 0, .string ⟨#[]⟩, .slice none 0 0] 30)).heap.size = w.heap.size + 1 := World.size_alloc ..
  have h1 := (kind_tok (c := cb) (t := hdT ts) (by rcases hs with h | h <;> rw [h] <;> decide)).2 (by rcases hs with h | h <;> rw [h] <;> decide)
  have HNi : Hid (i64 0) := Lib.hid ⟨by decide, by decide⟩
  have HTk := Lib.hid (show takeR 1 [] (ts, 0) = (hdT ts, (ts.tail, 0)) from takeR_ok h1 (by decide))
  obtain ⟨t, ht⟩ : ∃ t, hdT ts = t := ⟨_, rfl⟩
  rw [ht] at HTk
  have HTc : Hid (∀ w' : World, StR V A c all w' g (ts, 0) → Calls Try.prog 23 #[.pointer (some ⟨g, 0, none⟩), .int .i64 1, .string ⟨#[]⟩] w' fun e w'' => e = .returned (.agg #[.int .i64 t.1, .string (B t.2.1), .int .i64 t.2.2.1, .int .i64 t.2.2.2]) ∧ StR V A c all w'' g (ts.tail, 0) ∧ w'.grownBy w'' (some g)) := Lib.hid (fun w' h' => by
    have := rtake_any V A c all g (ts, 0) 1 [] ⟨#[]⟩ (Lib.hid rfl) w' h'
    rw [HTk.out] at this
    exact this)
  have HF := Lib.hid (show exprR (d + 1) cb (ts, 0) = (.mk k0 0 [] [], (ts.tail, 0)) by
    unfold exprR
    rw [if_neg (fun hh => hh rfl), if_neg (by rcases hs with h | h <;> rw [h] <;> decide), if_neg (by rcases hs with h | h <;> rw [h] <;> decide), if_pos hs, HTk.out, hk0])
  clear ht
  obtain ⟨D, hD⟩ : ∃ D : Int, 32 - ((d + 1 : Nat) : Int) = D := ⟨_, rfl⟩
  have hD' : ¬ (32 ≤ D) := by omega
  have S1 := HS1
  have N1 := HN
  have G1 := HG1
  rw [hD]
  rw [hk0] at hs
  clear hk0 h hA hD h1
  rcases hs with rfl | rfl
  · go_enter Try.func22, Try.ntmps22
    go_wp2_with (first
      | (go_at_call 40; (with_reducible refine (HKi.out _ _ rfl S1.out).mono ?_); rintro e w3 ⟨rfl, h3⟩; have hz3 := h3.size; have h4 := h3.trans ((Rel.right h3).alloc (.cells #[.int .i64 1, .int .i64 0, .string ⟨#[]⟩, .slice none 0 0] 30)); have HNW := Lib.hid (N1.out.rel h4); have HSW := Lib.hid (S1.out.rel h4); have HGW := Lib.hid (grown_trans G1.out (grown_rel (some g) h4)); have e2' := HSW.out.err; obtain ⟨⟨r0, r1, r2, r3⟩, q0, q1, q2, q3⟩ := HNW.out.four; have hne1 : ¬ w3.heap.size = w.heap.size := (by omega); have hne2 : ¬ w.heap.size = w3.heap.size := (by omega); have HX := Lib.hid (Bk.new w3 30 #[.int .i64 1, .int .i64 0, .string ⟨#[]⟩, .slice none 0 0]))
      | (go_at_call 23; (with_reducible refine (HTc.out _ HSW.out).mono ?_); rintro e w4 ⟨rfl, s4, g4⟩; have HS4 := Lib.hid s4; have HN4 := Lib.hid (HNW.out.grown g4 (fun e => by injection e; omega)); have HG4 := Lib.hid (grown_trans HGW.out g4); have HX4 := Lib.hid (HX.out.grown g4 (fun e => by injection e; omega)); obtain ⟨⟨p0, p1, p2, p3⟩, v0, v1, v2, v3⟩ := HN4.out.four; obtain ⟨⟨x0, x1, x2, x3⟩, u0, u1, u2, u3⟩ := HX4.out.four))
    obtain ⟨⟨y0, y1, y2, y3⟩, _⟩ := (HN4.out.put4 (.int .i64 1) (.int .i64 0) (.string ⟨#[]⟩) (.slice none 0 0)).four
    have gp := put4_grown w4 w.heap.size (.int .i64 1) (.int .i64 0) (.string ⟨#[]⟩) (.slice none 0 0)
    refine bodyPost_ret (v := EV (1, 0, [], none, 0, 0)) (by simp [results, Try.results22, go_sem, y0, y1, y2, y3]; rfl) rfl ⟨_, rfl, ?_, ?_, ?_⟩
    · rw [HF.out]; exact ExAt.leaf _ _ 1 0 [] none 0 (by first | exact HNi.out | exact ⟨by decide, by decide⟩) (by first | exact HNi.out | exact ⟨by decide, by decide⟩) (by simp)
    · rw [HF.out]; exact HS4.out.grown gp (fun e => by injection e; omega) (fun k e => by cases e; exact hVw)
    · exact grown_of HG4.out gp (fun k e => by cases e; exact Nat.le_refl _)
  · go_enter Try.func22, Try.ntmps22
    go_wp2_with (first
      | (go_at_call 40; (with_reducible refine (HKi.out _ _ rfl S1.out).mono ?_); rintro e w3 ⟨rfl, h3⟩; have hz3 := h3.size; have h4 := h3.trans ((Rel.right h3).alloc (.cells #[.int .i64 2, .int .i64 0, .string ⟨#[]⟩, .slice none 0 0] 30)); have HNW := Lib.hid (N1.out.rel h4); have HSW := Lib.hid (S1.out.rel h4); have HGW := Lib.hid (grown_trans G1.out (grown_rel (some g) h4)); have e2' := HSW.out.err; obtain ⟨⟨r0, r1, r2, r3⟩, q0, q1, q2, q3⟩ := HNW.out.four; have hne1 : ¬ w3.heap.size = w.heap.size := (by omega); have hne2 : ¬ w.heap.size = w3.heap.size := (by omega); have HX := Lib.hid (Bk.new w3 30 #[.int .i64 2, .int .i64 0, .string ⟨#[]⟩, .slice none 0 0]))
      | (go_at_call 23; (with_reducible refine (HTc.out _ HSW.out).mono ?_); rintro e w4 ⟨rfl, s4, g4⟩; have HS4 := Lib.hid s4; have HN4 := Lib.hid (HNW.out.grown g4 (fun e => by injection e; omega)); have HG4 := Lib.hid (grown_trans HGW.out g4); have HX4 := Lib.hid (HX.out.grown g4 (fun e => by injection e; omega)); obtain ⟨⟨p0, p1, p2, p3⟩, v0, v1, v2, v3⟩ := HN4.out.four; obtain ⟨⟨x0, x1, x2, x3⟩, u0, u1, u2, u3⟩ := HX4.out.four))
    obtain ⟨⟨y0, y1, y2, y3⟩, _⟩ := (HN4.out.put4 (.int .i64 2) (.int .i64 0) (.string ⟨#[]⟩) (.slice none 0 0)).four
    have gp := put4_grown w4 w.heap.size (.int .i64 2) (.int .i64 0) (.string ⟨#[]⟩) (.slice none 0 0)
    refine bodyPost_ret (v := EV (2, 0, [], none, 0, 0)) (by simp [results, Try.results22, go_sem, y0, y1, y2, y3]; rfl) rfl ⟨_, rfl, ?_, ?_, ?_⟩
    · rw [HF.out]; exact ExAt.leaf _ _ 2 0 [] none 0 (by first | exact HNi.out | exact ⟨by decide, by decide⟩) (by first | exact HNi.out | exact ⟨by decide, by decide⟩) (by simp)
    · rw [HF.out]; exact HS4.out.grown gp (fun e => by injection e; omega) (fun k e => by cases e; exact hVw)
    · exact grown_of HG4.out gp (fun k e => by cases e; exact Nat.le_refl _)
end Go.Proofs.Ytoajbbcjmalngaa

namespace Go.Proofs.Ytoajbbcjmalngaa
open Go.RowKit Go.Lib
set_option linter.unusedVariables false
set_option linter.unusedSimpArgs false

/-- Where a call stands: the state at g, the expression at gx; U: the world that it began in. -/
def InR (V : World) (A : Option Addr) (c : Nat) (all : List Tok) (U w : World) (g gx : Nat) (x : Ex) (s : PS) : Prop := StR V A c all w g s ∧ g < U.heap.size ∧ U.heap.size ≤ gx ∧ U.grownBy w (some g) ∧ ∃ B' c' es, XP gx w x B' c' es
theorem InR.step {V U w w' : World} {A : Option Addr} {c : Nat} {all : List Tok} {g gx : Nat} {x : Ex} {s s' : PS} (h : InR V A c all U w g gx x s) (hg : w.grownBy w' (some g)) (hs : StR V A c all w' g s') : InR V A c all U w' g gx x s' := by
  obtain ⟨h1, h2, h3, h4, B', c', es, h5⟩ := h
  exact ⟨hs, h2, h3, grown_trans h4 hg, B', c', es, h5.grown hg (by omega)⟩
theorem InR.rel {V U w w' : World} {A : Option Addr} {c : Nat} {all : List Tok} {g gx : Nat} {x : Ex} {s : PS} (h : InR V A c all U w g gx x s) (hr : Rel w w') : InR V A c all U w' g gx x s := h.step (grown_rel (some g) hr) (h.1.rel hr)
theorem InR.set {V U w : World} {A : Option Addr} {c : Nat} {all : List Tok} {g gx : Nat} {x y : Ex} {s : PS} (h : InR V A c all U w g gx x s) (o : Nat) (v : Value) (hy : ∀ A n c, (#[.int .i64 x.k, .int .i64 x.n, .string (B x.nm), .slice A n c] : Array Value).setIfInBounds o v = #[.int .i64 y.k, .int .i64 y.n, .string (B y.nm), .slice A n c])
    (hl : y.l = x.l) (hk : i64 y.k) (hn : i64 y.n) (hm : y.nm.length ≤ 100) : InR V A c all U (w.setCell ⟨gx, o, none⟩ v) g gx y s := by
  obtain ⟨h1, h2, h3, h4, B', c', es, h5⟩ := h
  have gs := set_grown w gx o v
  have hVg : V.heap.size ≤ g := by obtain ⟨_, _, hh, _⟩ := h1; exact hh
  exact ⟨h1.grown gs (fun e => by injection e; omega) (fun k e => by cases e; omega), h2, h3, grown_of h4 gs (fun k e => by cases e; exact h3), B', c', es, h5.set o v y (hy _ _ _) hl hk hn hm⟩
theorem InR.box {V U w : World} {A : Option Addr} {c : Nat} {all : List Tok} {g gx : Nat} {x : Ex} {s : PS} (h : InR V A c all U w g gx x s) : ∃ B' c' es, Bk w gx 30 #[.int .i64 x.k, .int .i64 x.n, .string (B x.nm), .slice B' x.l.length c'] ∧ XP gx w x B' c' es := by
  obtain ⟨h1, h2, h3, h4, B', c', es, h5⟩ := h
  have h6 := h5.1
  rw [h5.2.2.1] at h6
  exact ⟨B', c', es, h6, h5⟩
theorem InR.own {V U w w2 : World} {A : Option Addr} {c : Nat} {all : List Tok} {g gx : Nat} {x : Ex} {s : PS} (h : InR V A c all U w g gx x s) {B' : Option Addr} {c' : Nat} {es : List El} (hX : XP gx w x B' c' es) (hg : w.grownBy w2 (some g)) : w2.ownsRow (gx + 1) 30 4 (.slice B' x.l.length c') x.l.length (cellsEs es) := by
  have := (hX.grown hg (by have := h.2.1; have := h.2.2.1; omega)).2.1
  rwa [hX.2.2.1] at this
/-- One argument more. -/
theorem InR.push {V U w w2 w3 : World} {A : Option Addr} {c : Nat} {all : List Tok} {g gx : Nat} {x y : Ex} {s s' : PS} (h : InR V A c all U w g gx x s) {B' : Option Addr} {c' : Nat} {es : List El} (hX : XP gx w x B' c' es) (hx : x.l.length ≤ 2) {wd : World} (hd : Rel w wd) (g2 : wd.grownBy w2 (some g)) (s2 : StR V A c all w2 g s') {v : El} (ex : ExAt (fun q => wd.heap.size ≤ q) w2 v y) (o : Obj)
    {g' cap : Nat} (hown : w3.ownsRow (gx + 1) 30 4 (.slice (some ⟨g', 0, none⟩) (x.l.length + 1) cap) (x.l.length + 1) (cellsEs es ++ cellsE v)) (hgrow : (w2.alloc o).grownBy w3 (Value.slice B' x.l.length c').ownBlock) (hat : (Value.slice B' x.l.length c').ownBlock = some g' ∨ g' = w2.heap.size + 1) (W : World) (hW : w3.setCell ⟨gx, 3, none⟩ (.slice (some ⟨g', 0, none⟩) (x.l.length + 1) cap) = W) :
    InR V A c all U W g gx (x.push y) s' := by
  obtain ⟨h1, hg, hU, hG, _⟩ := h
  have R2 : Rel w2 (w2.alloc o) := by obtain ⟨_, a, _⟩ := s2; exact a.self.alloc o
  have gb := grown_trans (grown_trans (grown_rel (some g) hd) g2) (grown_rel (some g) R2)
  have hXb := hX.grown gb (by omega)
  have sb := s2.rel R2
  have exb := (ex.rel R2).weak (S' := fun q => gx < q ∧ some q ≠ (Value.slice B' es.length c').ownBlock) fun q hq => ⟨by have := hX.lt; have := hd.size; omega, fun e => by have := (hX.2.1.lt q e.symm).2; have := hd.size; omega⟩
  have hGb := grown_trans hG gb
  have zb : (w2.alloc o).heap.size = w2.heap.size + 1 := World.size_alloc ..
  obtain ⟨wb, hwb⟩ : ∃ wb, w2.alloc o = wb := ⟨_, rfl⟩
  rw [hwb] at hXb sb exb hGb zb hgrow
  rw [← zb] at hat
  clear gb R2 hwb zb s2 ex g2 hG hd h1
  have hn := hXb.2.2.1
  rw [← hn] at hown hgrow hat hW
  obtain ⟨m1, m2, m3, m4, m5, m6, m7, m8⟩ := hXb
  have ho := fun j (hj : (Value.slice B' es.length c').ownBlock = some j) => m2.lt j hj
  have hg' := hown.lt g' rfl
  have hsz := hgrow.size
  have hgx : gx < wb.heap.size := m1.lt
  have gno : ∀ q, q ≤ gx → some q ≠ (Value.slice B' es.length c').ownBlock := fun q hq e => by have := (ho q e.symm).1; omega
  have m1' : Bk w3 gx 30 #[.int .i64 x.k, .int .i64 x.n, .string (B x.nm), .slice B' es.length c'] := m1.grown hgrow (gno gx (Nat.le_refl _))
  have gs := set_grown w3 gx 3 (.slice (some ⟨g', 0, none⟩) (es.length + 1) cap)
  rw [hW] at gs
  have p1 : Bk W gx 30 #[.int .i64 x.k, .int .i64 x.n, .string (B x.nm), .slice (some ⟨g', 0, none⟩) (es.length + 1) cap] := by rw [← hW]; exact m1'.set_ 3 _
  have p2 : W.ownsRow (gx + 1) 30 4 (.slice (some ⟨g', 0, none⟩) (es.length + 1) cap) (es.length + 1) (cellsEs (es ++ [v])) := by
    rw [← hW, cellsEs_snoc]
    exact own_set hown (p := ⟨gx, 3, none⟩) (fun e => by have e : some gx = some g' := e; injection e; omega) _
  have zW : W.heap.size = w3.heap.size := by rw [← hW]; exact World.size_setCell ..
  have blk : ∀ q, q < wb.heap.size → q ≠ gx → some q ≠ (Value.slice B' es.length c').ownBlock → W.heap[q]? = wb.heap[q]? := fun q hq hne hno =>
    (gs.block q (by omega) (fun e => by injection e; omega)).trans (hgrow.block q hq hno)
  have exs : ∀ {e : El} {z : Ex}, ExAt (fun q => gx < q ∧ some q ≠ (Value.slice B' es.length c').ownBlock) wb e z → ExAt (fun q => gx < q ∧ some q ≠ (Value.slice (some ⟨g', 0, none⟩) (es.length + 1) cap).ownBlock) W e z := fun he => he.mono (by omega) fun q hq hl => by
    refine ⟨⟨hq.1, fun e => ?_⟩, blk q hl (by omega) hq.2⟩
    have e : q = g' := by injection e
    subst e
    rcases hat with h | h
    · exact hq.2 h.symm
    · omega
  have hlen : (es ++ [v]).length = es.length + 1 := by rw [List.length_append]; rfl
  have sp : StR V A c all W g s' := by
    obtain ⟨j, q1, q2, q3, q4, q5, q6, q7⟩ := sb
    refine ⟨j, ⟨q1.1, ⟨gs.os.trans (hgrow.os.trans q1.2.os), gs.tape.trans (hgrow.tape.trans q1.2.tape), gs.output.trans (hgrow.output.trans q1.2.output), by have := q1.2.size; omega, fun k hk => ?_⟩⟩, q2, q3, q4, (blk g (by omega) (by omega) (gno g (by omega))).trans q5, q6, q7⟩
    have := q1.2.size
    exact (blk k (by omega) (by omega) (gno k (by omega))).trans (q1.2.block k hk)
  refine ⟨sp, hg, hU, ⟨gs.os.trans (hgrow.os.trans hGb.os), gs.tape.trans (hgrow.tape.trans hGb.tape), gs.output.trans (hgrow.output.trans hGb.output), by have := hGb.size; omega, fun k hk hne => ?_⟩, some ⟨g', 0, none⟩, cap, es ++ [v], ?_⟩
  · have := hGb.size
    exact (blk k (by omega) (by omega) (gno k (by omega))).trans (hGb.block k hk hne)
  · unfold XP
    rw [← hlen] at p1 p2
    have hpl : (x.push y).l = x.l ++ [y] := rfl
    have all' : ∀ i (hi : i < (es ++ [v]).length) (hi' : i < (x.l ++ [y]).length), ExAt (fun q => gx < q ∧ some q ≠ (Value.slice (some ⟨g', 0, none⟩) (es.length + 1) cap).ownBlock) W (es ++ [v])[i] (x.l ++ [y])[i] := fun i hi hi' => by
      rcases Nat.lt_or_ge i es.length with hlt | hge
      · simp only [List.getElem_append_left hlt, List.getElem_append_left (show i < x.l.length by omega)]
        exact exs (m4 i hlt (by omega))
      · have hie : i = es.length := by rw [hlen] at hi; omega
        subst hie
        simp only [List.getElem_append_right (Nat.le_refl _), List.getElem_append_right (show x.l.length ≤ es.length by omega), Nat.sub_self, show es.length - x.l.length = 0 by omega, List.getElem_cons_zero]
        exact exs exb
    refine ⟨p1, p2, by rw [hlen, hpl, List.length_append, ← m3]; rfl, fun i hi hi' => all' i hi hi', m5, m6, m7, by rw [hpl, List.length_append]; simp; omega⟩
theorem upto_lenR (f : Bool → PS → Ex × PS) (k : Int) (s : PS) : ∀ j, (uptoR f k j s).1.length = j := by
  intro j
  induction j with
  | zero => rfl
  | succ j ih => unfold uptoR; rw [List.length_append, ih]; rfl
end Go.Proofs.Ytoajbbcjmalngaa
