/- The document's own answers of layer 17: Next. -/
import Derived.Test.YtndmnlgancnbkaaZL
import Derived.Test.YtndmnlgancnbkaaZ00
import Derived.Test.YtndmnlgancnbkaaZ01
import Derived.Test.YtndmnlgancnbkaaZ02
import Derived.Test.YtndmnlgancnbkaaZ03
import Derived.Test.YtndmnlgancnbkaaZ05
import Derived.Test.YtndmnlgancnbkaaZ11
import Derived.Test.YtndmnlgancnbkaaZ14
import Derived.Test.YtndmnlgancnbkaaZ16
import Derived.Test.YtndmnlgancnbkaaZ18
import Derived.Test.YtndmnlgancnbkaaZ19
import Derived.Test.YtndmnlgancnbkaaZ20
namespace Go.Proofs.Ytndmnlgancnbkaa
open Go.RowKit Go.Lib
set_option linter.unusedVariables false
set_option linter.unusedSimpArgs false
theorem qfill_step {m g u : Int} {L : List It} {d : Int} {D : List Int} (hu : -1099511627776 ≤ u ∧ u ≤ 1000000) (h : QInv m g L (d :: D)) (hr : (L.length : Int) < m) : QInv m g (insH L (d, u)) D := by
  obtain ⟨u1, u2⟩ := ups_cons.1 h.ups
  have hd : hasH L d = false := h.out d (List.mem_cons_self ..)
  refine ⟨ins_srt h.srt hd, u2, fun e he => ?_, fun e he => h.low e (List.mem_cons_of_mem _ he), fun z hz => ?_, fun z hz => ?_, by rw [ins_len]; omega, h.room, h.age⟩
  · cases hx : hasH (insH L (d, u)) e with
    | false => rfl
    | true =>
      rcases has_ins.1 hx with q | q
      · have := u1 e he; have q : e = d := q; omega
      · rw [h.out e (List.mem_cons_of_mem _ he)] at q; cases q
  · rcases ins_mem.1 hz with rfl | hz
    · exact h.low _ (List.mem_cons_self ..)
    · exact h.key z hz
  · rcases ins_mem.1 hz with rfl | hz
    · exact hu
    · exact h.wt z hz
theorem addr_spot17 {w : World} {a : Addr} {v : Value} (h : w.cell? (a.add 0) = some v) : ∃ g off, a = ⟨g, off, none⟩ := by
  obtain ⟨g, off, cur⟩ := a
  cases cur with
  | none => exact ⟨g, off, rfl⟩
  | some k =>
    exfalso
    simp only [Addr.add, World.cell?, if_true] at h
    split at h <;> simp at h
def lenAt (w : World) (p : Nat) : Nat := match w.cell? ⟨p, 3, none⟩ with | some (.slice _ n _) => n | _ => 0
theorem lenAt_of {w : World} {p n c : Nat} {A : Option Addr} (h : w.cell? ⟨p, 3, none⟩ = some (.slice A n c)) : lenAt w p = n := by unfold lenAt; rw [h]
theorem lt_of_len {a k : Nat} (h : a = k) : a < k + 1 := by omega
/-- The first one who is dirty, off the row. -/
theorem Rq.tail {w : World} {p c ga off : Nat} {u : Value} {m g : Int} {L : List It} {d : Int} {D : List Int} {A' : Option Addr} (h : Rq w p u m g L (some ⟨ga, off, none⟩) c (d :: D)) (hA : A' = if c = 1 then some ⟨ga, off, none⟩ else some ⟨ga, off + 1, none⟩) :
    Rq (w.setCell ⟨p, 3, none⟩ (.slice A' D.length (c - 1))) p u m g L A' (c - 1) D := by
  have hb := h.hp
  obtain ⟨⟨h1, h2, h3, h4⟩, h5⟩ := h.nu
  rw [List.length_cons] at h1
  have hg : ∃ o, A' = some ⟨ga, o, none⟩ ∧ (c ≠ 1 → o = off + 1) := by
    rw [hA]
    split
    · rename_i e; exact ⟨_, rfl, fun h => absurd e h⟩
    · exact ⟨_, rfl, fun _ => rfl⟩
  obtain ⟨o, rfl, ho⟩ := hg
  have hn : Nu (SoR p u) w (some ⟨ga, o, none⟩) (c - 1) D := by
    refine ⟨⟨by omega, by omega, fun z hz => h3 z (List.mem_cons_of_mem _ hz), fun i hi => ?_⟩, fun a ha => ?_⟩
    · obtain ⟨a, ha, hl, hc⟩ := h4 (i + 1) (by rw [List.length_cons]; omega)
      injection ha with ha
      subst ha
      refine ⟨_, rfl, hl, ?_⟩
      rw [ho (by omega), show (⟨ga, off + 1, none⟩ : Addr) = (⟨ga, off, none⟩ : Addr).add 1 from by simp [Addr.add], Addr.add_add, Nat.add_comm 1 i]
      exact hc
    · injection ha with ha
      subst ha
      have := h5 _ rfl
      exact this
  exact ⟨⟨hb.box.set_ 3 _, own_set hb.row.row (p := ⟨p, 3, none⟩) hb.g_ne _, hb.tne, hb.srt, hb.fit, hb.cap⟩, hn.set (fun a ha e => (hn.2 a ha).1 (.inl e)) _, (ups_cons.1 h.ups).2, fun x hx => h.low x (List.mem_cons_of_mem _ hx)⟩
theorem tail_block {c ga off : Nat} {a : Addr} (h : (if c = 1 then some (⟨ga, off, none⟩ : Addr) else some ⟨ga, off + 1, none⟩) = some a) : a.block = ga := by
  split at h <;> (injection h with h; rw [← h])
set_option maxRecDepth 100000 in
set_option maxHeartbeats 16000000 in
theorem rnext17 {w : World} {v : Value} {S : Nat → Prop} {m g : Int} {L : List It} {D : List Int} (t : Int) (hr : Rel w w) (h : RqP w v S m g L D) (ht : i64 t) :
    Calls Try.prog 15 #[v, .int .i64 t] w fun e w' => e = .returned (.tuple #[.int .i64 (itH (topH L)).1, .bool (topH L).isSome]) ∧ ∃ S', RqP w' v S' m g (nextQ m t L D).1 (nextQ m t L D).2 ∧ St S S' w w' := by
  obtain ⟨p, u, A, c, rfl, rfl, hq, hi⟩ := h
  obtain ⟨⟨x, y⟩, hx⟩ : ∃ x, itH (topH L) = x := ⟨_, rfl⟩
  obtain ⟨b, hb⟩ : ∃ b, (topH L).isSome = b := ⟨_, rfl⟩
  obtain ⟨T, hT⟩ : ∃ T, clampT t = T := ⟨_, rfl⟩
  have hTb := clampT_bd t
  rw [hT] at hTb
  have hTm : max 0 (min t 1099511627776) = T := by rw [← hT]; rfl
  have HN := Lib.hid (show nextQ m t L D = fillQ m (-T) (popH L) D by unfold nextQ; rw [hT])
  have HQ := Lib.hid hq
  have HR := Lib.hid hr
  have HI0 := Lib.hid hi.pop
  have K1 := Lib.hid (show Calls Try.prog 37 #[.pointer (some ⟨p, 0, none⟩)] w fun e w' => ∃ u', e = .returned (.tuple #[.agg #[.int .i64 x, .int .i64 y], .bool b]) ∧ Hid (Rq w' p u' m g (popH L) A c D) ∧ Hid (St (SqR p u A) (SqR p u' A) w w') from by
    have hz := rpop16 hr ⟨p, u, rfl, rfl, hq.hp⟩
    rw [hx, hb] at hz
    refine hz.mono ?_
    rintro e w' ⟨he, S', h1, h2⟩
    obtain ⟨u', rfl, h3⟩ := h1.un
    obtain ⟨a, b⟩ := hq.heap h3 h2
    exact ⟨u', he, Lib.hid a, Lib.hid b⟩)
  rw [hx, hb, HN.out]
  show Calls _ _ _ _ fun e w' => e = .returned (.tuple #[.int .i64 x, .bool b]) ∧ _
  have KP := Lib.hid (fun (w1 : World) (u1 : Value) (L1 : List It) (A1 : Option Addr) (c1 : Nat) (d : Int) (D1 : List Int) (E : Int) (L2 : List It) (hrr : Rel w1 w1) (hI : QInv m g L1 (d :: D1)) (hE : (E = 0 ∧ (L1.length : Int) < m ∧ L2 = insH L1 (d, -T)) ∨ (E = 50 ∧ m ≤ (L1.length : Int) ∧ L2 = L1)) (hq : Rq w1 p u1 m g L1 A1 c1 (d :: D1)) => show Calls Try.prog 32 #[.pointer (some ⟨p, 0, none⟩), .int .i64 d, .int .i64 (-T)] w1 fun e w' => ∃ u', e = .returned (.int .i64 E) ∧ Hid (Rq w' p u' m g L2 A1 c1 (d :: D1)) ∧ Hid (St (SqR p u1 A1) (SqR p u' A1) w1 w') from by
    have hd : ¬ hasH L1 d = true := by rw [hI.out d (List.mem_cons_self ..)]; simp
    have hlo := hI.low d (List.mem_cons_self ..)
    have e1 : pushE m L1 d = E ∧ pushL m L1 d (-T) = L2 := by
      unfold pushL pushE
      rw [if_neg hd]
      rcases hE with ⟨rfl, hl, rfl⟩ | ⟨rfl, hl, rfl⟩
      · rw [if_neg (by omega)]; exact ⟨rfl, rfl⟩
      · rw [if_pos (by omega)]; exact ⟨rfl, rfl⟩
    refine (rpush16 d (-T) hrr ⟨p, u1, rfl, rfl, hq.hp⟩ hI.room ⟨by omega, by omega⟩ ⟨by omega, by omega⟩).mono ?_
    rw [e1.1, e1.2]
    rintro e w' ⟨he, S', h2, h3⟩
    obtain ⟨u', rfl, h4⟩ := h2.un
    obtain ⟨a, b⟩ := hq.heap h4 h3
    exact ⟨u', he, Lib.hid a, Lib.hid b⟩)
  have HWr := Lib.hid (show IntKind.i64.wrap (-T) = -T by first | (rw [IntKind.wrap_i64]; omega) | (simp [IntKind.wrap]; omega))
  obtain ⟨ht0, ht1⟩ := ht
  clear hq hr hi hx hb hT
  go_enter Try.func15, Try.ntmps15
  go_upto_region 2 with (go_at_call 37; (with_reducible refine K1.out.mono ?_); rintro e w1 ⟨u1, rfl, q1, s1⟩; have RS1 := Lib.hid (s1.out.self17 HR.out); have BX := Lib.hid (Bk.new w1 64 #[.int .i64 x, .int .i64 y]))
  obtain ⟨gx, hgx⟩ : ∃ q, w1.heap.size = q := ⟨_, rfl⟩
  have HX1 := Lib.hid (show Bx (SqR p u1 A) (w1.alloc (.cells #[.int .i64 x, .int .i64 y] 64)) gx 64 #[.int .i64 x, .int .i64 y] from by rw [← hgx]; exact ⟨BX.out, fun e => Nat.lt_irrefl _ (q1.out.lt _ e)⟩)
  have Q2 := Lib.hid (q1.out.rel (RS1.out.alloc (.cells #[.int .i64 x, .int .i64 y] 64)))
  have S2 := Lib.hid (s1.out.on17 (St.of_rel17 (RS1.out.alloc (.cells #[.int .i64 x, .int .i64 y] 64))))
  obtain ⟨W, hW⟩ : ∃ W, w1.alloc (.cells #[.int .i64 x, .int .i64 y] 64) = W := ⟨_, rfl⟩
  rw [hW] at HX1 Q2 S2
  try rw [hW]
  try rw [hgx]
  clear hgx hW BX RS1 s1 q1 K1
  go_cut [8] (fun z wx => z = .int .i64 T ∧ W = wx)
  case first =>
    have hw : t < 0 ∨ (¬ t < 0 ∧ t ≤ 1099511627776) ∨ (¬ t < 0 ∧ ¬ t ≤ 1099511627776) := by omega
    rcases hw with h1 | ⟨h1, h2⟩ | ⟨h1, h2⟩
    all_goals
      go_wp2_with (fail)
      all_goals
        go_meet
        exact ⟨by first | rfl | (congr 1; omega) | (simp; omega), rfl⟩
  obtain ⟨rfl, rfl⟩ := hcut
  go_wp2_with (fail)
  go_loopw [39] (fun _ wr => ∃ (u1 : Value) (A1 : Option Addr) (c1 : Nat) (L1 : List It) (D1 : List Int), Hid (Rq wr p u1 m g L1 A1 c1 D1) ∧ Hid (QInv m g L1 D1) ∧ Hid (fillQ m (-T) L1 D1 = fillQ m (-T) (popH L) D) ∧ Hid (St (SqR p u A) (SqR p u1 A1) w wr) ∧ Hid (Bx (SqR p u1 A1) wr gx 64 #[.int .i64 x, .int .i64 y])) (fun _ wr => lenAt wr p)
  case atStart => exact ⟨u1, A, c, popH L, D, Q2, HI0, Lib.hid rfl, S2, HX1⟩
  case round =>
    obtain ⟨u1, A1, c1, L1, D1, HQ1, HI, HF, HS, HX⟩ := hrel
    have HRw := Lib.hid (HS.out.self17 HR.out)
    have HRd := Lib.hid (HRw.out.drew)
    have HQd := Lib.hid (HQ1.out.rel HRd.out)
    cases D1 with
    | nil =>
      have k1 : wr.cell? ⟨p, 3, none⟩ = some (.slice A1 0 c1) := (HQ1.out.cell HRw.out).2
      have HF := Lib.hid (show (L1, ([] : List Int)) = fillQ m (-T) (popH L) D from HF.out)
      go_wp2_with (fail)
      refine wp_region_held_drew (S := (fun w' => w'.cell? ⟨p, 3, none⟩ = some (.slice A1 0 c1))) (by kernel_rfl) k1 (fun hHeld => ?_)
      refine held_take (i := 0) (v := ?_) (some 19) rfl rfl (by kernel_rfl) (by kernel_rfl) (by kernel_rfl) (fun _ _ _ h => h) (Or.inl ⟨by rfl, ?_⟩) hHeld ?_
      rotate_left 1
      · intro w' (s0 : w'.cell? ⟨p, 3, none⟩ = some (.slice A1 0 c1)); go_simp; try with_reducible rfl
      try simp only [Act.put, List.setIfInBounds_toArray, List.set_cons_zero, List.set_cons_succ]
      refine held_take (i := 1) (v := ?_) (some 20) rfl rfl (by kernel_rfl) (by kernel_rfl) (by kernel_rfl) (fun _ _ _ h => h) (Or.inl ⟨by rfl, ?_⟩) hHeld ?_
      rotate_left 1
      · intro w' (s0 : w'.cell? ⟨p, 3, none⟩ = some (.slice A1 0 c1)); go_simp; try with_reducible rfl
      try simp only [Act.put, List.setIfInBounds_toArray, List.set_cons_zero, List.set_cons_succ]
      refine held_take (i := 2) (v := ?_) (some 21) rfl rfl (by kernel_rfl) (by kernel_rfl) (by kernel_rfl) (fun _ _ _ h => h) (Or.inl ⟨by rfl, ?_⟩) hHeld ?_
      rotate_left 1
      · intro w' (s0 : w'.cell? ⟨p, 3, none⟩ = some (.slice A1 0 c1)); go_simp; try with_reducible rfl
      try simp only [Act.put, List.setIfInBounds_toArray, List.set_cons_zero, List.set_cons_succ]
      refine held_take (i := 3) (v := ?_) (some 22) rfl rfl (by kernel_rfl) (by kernel_rfl) (by kernel_rfl) (fun _ _ _ h => h) (Or.inl ⟨by rfl, ?_⟩) hHeld ?_
      rotate_left 1
      · intro w' (s0 : w'.cell? ⟨p, 3, none⟩ = some (.slice A1 0 c1)); go_simp; try with_reducible rfl
      try simp only [Act.put, List.setIfInBounds_toArray, List.set_cons_zero, List.set_cons_succ]
      refine held_take (i := 4) (v := ?_) (some 23) rfl rfl (by kernel_rfl) (by kernel_rfl) (by kernel_rfl) (fun _ _ _ h => h) (Or.inl ⟨by rfl, ?_⟩) hHeld ?_
      rotate_left 1
      · intro w' (s0 : w'.cell? ⟨p, 3, none⟩ = some (.slice A1 0 c1)); go_simp; try with_reducible rfl
      try simp only [Act.put, List.setIfInBounds_toArray, List.set_cons_zero, List.set_cons_succ]
      refine held_take (i := 5) (v := ?_) (some 24) rfl rfl (by kernel_rfl) (by kernel_rfl) (by kernel_rfl) (fun _ _ _ h => h) (Or.inl ⟨by rfl, ?_⟩) hHeld ?_
      rotate_left 1
      · intro w' (s0 : w'.cell? ⟨p, 3, none⟩ = some (.slice A1 0 c1)); go_simp; try with_reducible rfl
      try simp only [Act.put, List.setIfInBounds_toArray, List.set_cons_zero, List.set_cons_succ]
      refine held_take (i := 6) (v := ?_) (some 25) rfl rfl (by kernel_rfl) (by kernel_rfl) (by kernel_rfl) (fun _ _ _ h => h) (Or.inl ⟨by rfl, ?_⟩) hHeld ?_
      rotate_left 1
      · intro w' (s0 : w'.cell? ⟨p, 3, none⟩ = some (.slice A1 0 c1)); go_simp; try with_reducible rfl
      try simp only [Act.put, List.setIfInBounds_toArray, List.set_cons_zero, List.set_cons_succ]
      refine held_take (i := 7) (v := undef) (some 26) rfl rfl (by kernel_rfl) (by kernel_rfl) (by kernel_rfl) (fun _ _ _ h => h) (Or.inr ⟨by rfl, rfl⟩) hHeld ?_
      try simp only [Act.put, List.setIfInBounds_toArray, List.set_cons_zero, List.set_cons_succ]
      refine held_take (i := 8) (v := undef) (some 27) rfl rfl (by kernel_rfl) (by kernel_rfl) (by kernel_rfl) (fun _ _ _ h => h) (Or.inr ⟨by rfl, rfl⟩) hHeld ?_
      try simp only [Act.put, List.setIfInBounds_toArray, List.set_cons_zero, List.set_cons_succ]
      refine held_take (i := 9) (v := undef) (some 28) rfl rfl (by kernel_rfl) (by kernel_rfl) (by kernel_rfl) (fun _ _ _ h => h) (Or.inr ⟨by rfl, rfl⟩) hHeld ?_
      try simp only [Act.put, List.setIfInBounds_toArray, List.set_cons_zero, List.set_cons_succ]
      refine held_take (i := 10) (v := undef) (some 29) rfl rfl (by kernel_rfl) (by kernel_rfl) (by kernel_rfl) (fun _ _ _ h => h) (Or.inr ⟨by rfl, rfl⟩) hHeld ?_
      try simp only [Act.put, List.setIfInBounds_toArray, List.set_cons_zero, List.set_cons_succ]
      refine held_take (i := 11) (v := undef) (some 30) rfl rfl (by kernel_rfl) (by kernel_rfl) (by kernel_rfl) (fun _ _ _ h => h) (Or.inr ⟨by rfl, rfl⟩) hHeld ?_
      try simp only [Act.put, List.setIfInBounds_toArray, List.set_cons_zero, List.set_cons_succ]
      refine held_take (i := 12) (v := undef) (some 31) rfl rfl (by kernel_rfl) (by kernel_rfl) (by kernel_rfl) (fun _ _ _ h => h) (Or.inr ⟨by rfl, rfl⟩) hHeld ?_
      try simp only [Act.put, List.setIfInBounds_toArray, List.set_cons_zero, List.set_cons_succ]
      refine held_take (i := 13) (v := undef) (some 32) rfl rfl (by kernel_rfl) (by kernel_rfl) (by kernel_rfl) (fun _ _ _ h => h) (Or.inr ⟨by rfl, rfl⟩) hHeld ?_
      try simp only [Act.put, List.setIfInBounds_toArray, List.set_cons_zero, List.set_cons_succ]
      refine held_take (i := 14) (v := undef) (some 33) rfl rfl (by kernel_rfl) (by kernel_rfl) (by kernel_rfl) (fun _ _ _ h => h) (Or.inr ⟨by rfl, rfl⟩) hHeld ?_
      try simp only [Act.put, List.setIfInBounds_toArray, List.set_cons_zero, List.set_cons_succ]
      refine held_take (i := 15) (v := undef) (some 34) rfl rfl (by kernel_rfl) (by kernel_rfl) (by kernel_rfl) (fun _ _ _ h => h) (Or.inr ⟨by rfl, rfl⟩) hHeld ?_
      try simp only [Act.put, List.setIfInBounds_toArray, List.set_cons_zero, List.set_cons_succ]
      refine held_take (i := 16) (v := undef) (some 35) rfl rfl (by kernel_rfl) (by kernel_rfl) (by kernel_rfl) (fun _ _ _ h => h) (Or.inr ⟨by rfl, rfl⟩) hHeld ?_
      try simp only [Act.put, List.setIfInBounds_toArray, List.set_cons_zero, List.set_cons_succ]
      refine held_take (i := 17) (v := undef) (some 36) rfl rfl (by kernel_rfl) (by kernel_rfl) (by kernel_rfl) (fun _ _ _ h => h) (Or.inr ⟨by rfl, rfl⟩) hHeld ?_
      try simp only [Act.put, List.setIfInBounds_toArray, List.set_cons_zero, List.set_cons_succ]
      refine held_take (i := 18) (v := undef) (some 37) rfl rfl (by kernel_rfl) (by kernel_rfl) (by kernel_rfl) (fun _ _ _ h => h) (Or.inr ⟨by rfl, rfl⟩) hHeld ?_
      try simp only [Act.put, List.setIfInBounds_toArray, List.set_cons_zero, List.set_cons_succ]
      refine held_take (i := 19) (v := undef) (some 38) rfl rfl (by kernel_rfl) (by kernel_rfl) (by kernel_rfl) (fun _ _ _ h => h) (Or.inr ⟨by rfl, rfl⟩) hHeld ?_
      try simp only [Act.put, List.setIfInBounds_toArray, List.set_cons_zero, List.set_cons_succ]
      refine held_take (i := 20) (v := ?_) (some 39) rfl rfl (by kernel_rfl) (by kernel_rfl) (by kernel_rfl) (fun _ _ _ h => h) (Or.inl ⟨by rfl, ?_⟩) hHeld ?_
      rotate_left 1
      · intro w' (s0 : w'.cell? ⟨p, 3, none⟩ = some (.slice A1 0 c1)); go_simp; try with_reducible rfl
      try simp only [Act.put, List.setIfInBounds_toArray, List.set_cons_zero, List.set_cons_succ]
      refine wpAnyH_done (by kernel_rfl) ?_ _
      have y0 := (HX.out.1.drew).cell 0
      go_wp2_with (fail)
      refine bodyPost_ret (v := .tuple #[.int .i64 x, .bool b]) (by simp [results, Try.results15, go_sem]) rfl ⟨rfl, _, ⟨p, u1, A1, c1, rfl, rfl, by rw [← HF.out]; exact HQd.out, by rw [← HF.out]; exact HI.out⟩, HS.out.on17 (St.of_rel17 HRd.out)⟩
    | cons d D1 =>
      obtain ⟨a, z, ha, k2, e0, _, _⟩ := nums_cell HQ1.out.nu.1 HRw.out 0 (by simp)
      have e0 : d = z := e0
      subst e0
      subst ha
      obtain ⟨ga, off, rfl⟩ := addr_spot17 k2
      obtain ⟨k, hk⟩ : ∃ k, D1.length = k := ⟨_, rfl⟩
      have k1 : wr.cell? ⟨p, 3, none⟩ = some (.slice (some ⟨ga, off, none⟩) (k + 1) c1) := by rw [← hk]; exact (HQ1.out.cell HRw.out).2
      have k2 : wr.cell? ⟨ga, off, none⟩ = some (.int .i64 d) := k2
      have HRr := Lib.hid (HRd.out.self)
      have HKL := Lib.hid hk
      have hkc : k + 1 ≤ c1 := by have := HQ1.out.nu.1.1; rw [List.length_cons, hk] at this; exact this
      have hcm : c1 ≤ 9223372036854775807 := by have := HQ1.out.nu.1.2.1; unfold maxLen at this; omega
      have HD := Lib.hid (fun (L2 : List It) (w2 : World) (u2 : Value) (h : Rq w2 p u2 m g L2 (some ⟨ga, off, none⟩) c1 (d :: D1)) (hr : Rel w2 w2) => show w2.cell? ⟨p, 3, none⟩ = some (.slice (some ⟨ga, off, none⟩) (k + 1) c1) ∧ w2.cell? ⟨ga, off, none⟩ = some (.int .i64 d) from by
        refine ⟨by rw [← hk]; exact (h.cell hr).2, ?_⟩
        obtain ⟨a, z, ha, c0, e0, _, _⟩ := nums_cell h.nu.1 hr 0 (by simp)
        injection ha with ha
        subst ha
        have e0 : d = z := e0
        rw [e0]
        exact c0)
      have hlen : lenAt wr p = k + 1 := lenAt_of k1
      by_cases hl : (L1.length : Int) < m
      · have HP := Lib.hid (fun (w1 : World) (hrr : Rel w1 w1) (h : Rq w1 p u1 m g L1 (some ⟨ga, off, none⟩) c1 (d :: D1)) => KP.out w1 u1 L1 _ c1 d D1 0 (insH L1 (d, -T)) hrr HI.out (.inl ⟨rfl, hl, rfl⟩) h)
        have HI2 := Lib.hid (qfill_step (u := -T) (by omega) HI.out hl)
        have HF2 := Lib.hid (show fillQ m (-T) (insH L1 (d, -T)) D1 = fillQ m (-T) (popH L) D by rw [← HF.out]; conv => rhs; unfold fillQ; rw [if_pos hl])
        clear hl hk
        go_wp2_with (fail)
        refine wp_region_held_drew (S := (fun w' => w'.cell? ⟨p, 3, none⟩ = some (.slice (some ⟨ga, off, none⟩) (k + 1) c1) ∧ w'.cell? ⟨ga, off, none⟩ = some (.int .i64 d))) (by kernel_rfl) ⟨k1, k2⟩ (fun hHeld => ?_)
        refine held_take (i := 0) (v := ?_) (some 19) rfl rfl (by kernel_rfl) (by kernel_rfl) (by kernel_rfl) (fun _ _ _ h => h) (Or.inl ⟨by rfl, ?_⟩) hHeld ?_
        rotate_left 1
        · rintro w' ⟨s0, s1⟩; go_simp; try with_reducible rfl
        try simp only [Act.put, List.setIfInBounds_toArray, List.set_cons_zero, List.set_cons_succ]
        refine held_take (i := 1) (v := ?_) (some 20) rfl rfl (by kernel_rfl) (by kernel_rfl) (by kernel_rfl) (fun _ _ _ h => h) (Or.inl ⟨by rfl, ?_⟩) hHeld ?_
        rotate_left 1
        · rintro w' ⟨s0, s1⟩; go_simp; try with_reducible rfl
        try simp only [Act.put, List.setIfInBounds_toArray, List.set_cons_zero, List.set_cons_succ]
        refine held_take (i := 2) (v := ?_) (some 21) rfl rfl (by kernel_rfl) (by kernel_rfl) (by kernel_rfl) (fun _ _ _ h => h) (Or.inl ⟨by rfl, ?_⟩) hHeld ?_
        rotate_left 1
        · rintro w' ⟨s0, s1⟩; go_simp; try with_reducible rfl
        try simp only [Act.put, List.setIfInBounds_toArray, List.set_cons_zero, List.set_cons_succ]
        refine held_take (i := 3) (v := ?_) (some 22) rfl rfl (by kernel_rfl) (by kernel_rfl) (by kernel_rfl) (fun _ _ _ h => h) (Or.inl ⟨by rfl, ?_⟩) hHeld ?_
        rotate_left 1
        · rintro w' ⟨s0, s1⟩; go_simp; try with_reducible rfl
        try simp only [Act.put, List.setIfInBounds_toArray, List.set_cons_zero, List.set_cons_succ]
        refine held_take (i := 4) (v := ?_) (some 23) rfl rfl (by kernel_rfl) (by kernel_rfl) (by kernel_rfl) (fun _ _ _ h => h) (Or.inl ⟨by rfl, ?_⟩) hHeld ?_
        rotate_left 1
        · rintro w' ⟨s0, s1⟩; go_simp; try with_reducible rfl
        try simp only [Act.put, List.setIfInBounds_toArray, List.set_cons_zero, List.set_cons_succ]
        refine held_take (i := 5) (v := ?_) (some 24) rfl rfl (by kernel_rfl) (by kernel_rfl) (by kernel_rfl) (fun _ _ _ h => h) (Or.inl ⟨by rfl, ?_⟩) hHeld ?_
        rotate_left 1
        · rintro w' ⟨s0, s1⟩; go_simp; try with_reducible rfl
        try simp only [Act.put, List.setIfInBounds_toArray, List.set_cons_zero, List.set_cons_succ]
        refine held_take (i := 6) (v := ?_) (some 25) rfl rfl (by kernel_rfl) (by kernel_rfl) (by kernel_rfl) (fun _ _ _ h => h) (Or.inl ⟨by rfl, ?_⟩) hHeld ?_
        rotate_left 1
        · rintro w' ⟨s0, s1⟩; go_simp; try with_reducible rfl
        try simp only [Act.put, List.setIfInBounds_toArray, List.set_cons_zero, List.set_cons_succ]
        refine held_take (i := 7) (v := ?_) (some 26) rfl rfl (by kernel_rfl) (by kernel_rfl) (by kernel_rfl) (fun _ _ _ h => h) (Or.inl ⟨by rfl, ?_⟩) hHeld ?_
        rotate_left 1
        · rintro w' ⟨s0, s1⟩; go_simp; try with_reducible rfl
        try simp only [Act.put, List.setIfInBounds_toArray, List.set_cons_zero, List.set_cons_succ]
        refine held_take (i := 8) (v := ?_) (some 27) rfl rfl (by kernel_rfl) (by kernel_rfl) (by kernel_rfl) (fun _ _ _ h => h) (Or.inl ⟨by rfl, ?_⟩) hHeld ?_
        rotate_left 1
        · rintro w' ⟨s0, s1⟩; go_simp; try with_reducible rfl
        try simp only [Act.put, List.setIfInBounds_toArray, List.set_cons_zero, List.set_cons_succ]
        refine held_take (i := 9) (v := ?_) (some 28) rfl rfl (by kernel_rfl) (by kernel_rfl) (by kernel_rfl) (fun _ _ _ h => h) (Or.inl ⟨by rfl, ?_⟩) hHeld ?_
        rotate_left 1
        · rintro w' ⟨s0, s1⟩; go_simp; try with_reducible rfl
        try simp only [Act.put, List.setIfInBounds_toArray, List.set_cons_zero, List.set_cons_succ]
        refine held_take (i := 10) (v := ?_) (some 29) rfl rfl (by kernel_rfl) (by kernel_rfl) (by kernel_rfl) (fun _ _ _ h => h) (Or.inl ⟨by rfl, ?_⟩) hHeld ?_
        rotate_left 1
        · rintro w' ⟨s0, s1⟩; go_simp; try with_reducible rfl
        try simp only [Act.put, List.setIfInBounds_toArray, List.set_cons_zero, List.set_cons_succ]
        refine held_take (i := 11) (v := ?_) (some 30) rfl rfl (by kernel_rfl) (by kernel_rfl) (by kernel_rfl) (fun _ _ _ h => h) (Or.inl ⟨by rfl, ?_⟩) hHeld ?_
        rotate_left 1
        · rintro w' ⟨s0, s1⟩; go_simp; try with_reducible rfl
        try simp only [Act.put, List.setIfInBounds_toArray, List.set_cons_zero, List.set_cons_succ]
        refine held_take (i := 12) (v := ?_) (some 31) rfl rfl (by kernel_rfl) (by kernel_rfl) (by kernel_rfl) (fun _ _ _ h => h) (Or.inl ⟨by rfl, ?_⟩) hHeld ?_
        rotate_left 1
        · rintro w' ⟨s0, s1⟩; go_simp; try with_reducible rfl
        try simp only [Act.put, List.setIfInBounds_toArray, List.set_cons_zero, List.set_cons_succ]
        refine held_take (i := 13) (v := ?_) (some 32) rfl rfl (by kernel_rfl) (by kernel_rfl) (by kernel_rfl) (fun _ _ _ h => h) (Or.inl ⟨by rfl, ?_⟩) hHeld ?_
        rotate_left 1
        · rintro w' ⟨s0, s1⟩; go_simp; try with_reducible rfl
        try simp only [Act.put, List.setIfInBounds_toArray, List.set_cons_zero, List.set_cons_succ]
        refine held_take (i := 14) (v := ?_) (some 33) rfl rfl (by kernel_rfl) (by kernel_rfl) (by kernel_rfl) (fun _ _ _ h => h) (Or.inl ⟨by rfl, ?_⟩) hHeld ?_
        rotate_left 1
        · rintro w' ⟨s0, s1⟩; go_simp; try with_reducible rfl
        try simp only [Act.put, List.setIfInBounds_toArray, List.set_cons_zero, List.set_cons_succ]
        refine held_take (i := 15) (v := ?_) (some 34) rfl rfl (by kernel_rfl) (by kernel_rfl) (by kernel_rfl) (fun _ _ _ h => h) (Or.inl ⟨by rfl, ?_⟩) hHeld ?_
        rotate_left 1
        · rintro w' ⟨s0, s1⟩; go_simp; try with_reducible rfl
        try simp only [Act.put, List.setIfInBounds_toArray, List.set_cons_zero, List.set_cons_succ]
        refine held_take (i := 16) (v := ?_) (some 35) rfl rfl (by kernel_rfl) (by kernel_rfl) (by kernel_rfl) (fun _ _ _ h => h) (Or.inl ⟨by rfl, ?_⟩) hHeld ?_
        rotate_left 1
        · rintro w' ⟨s0, s1⟩; go_simp; try with_reducible rfl
        try simp only [Act.put, List.setIfInBounds_toArray, List.set_cons_zero, List.set_cons_succ]
        refine held_take (i := 17) (v := ?_) (some 36) rfl rfl (by kernel_rfl) (by kernel_rfl) (by kernel_rfl) (fun _ _ _ h => h) (Or.inl ⟨by rfl, ?_⟩) hHeld ?_
        rotate_left 1
        · rintro w' ⟨s0, s1⟩; go_simp; try with_reducible rfl
        try simp only [Act.put, List.setIfInBounds_toArray, List.set_cons_zero, List.set_cons_succ]
        refine held_one (j := 18) (by kernel_rfl) rfl (fun K hK => ?_)
        try simp only [List.getElem_toArray, List.getElem_cons_succ, List.getElem_cons_zero]
        rw [if_pos (by rfl)]
        go_simp
        go_at_call 32
        try rw [HWr.out]
        (with_reducible refine (HP.out wr.drew HRr.out HQd.out).mono ?_)
        rintro e w2 ⟨u2, rfl, q2, s2⟩
        obtain ⟨k3, k4⟩ := HD.out _ w2 u2 q2.out (s2.out.self17 HRr.out)
        refine hK.out _ _ ⟨k3, k4⟩ (fun hHeld => ?_)
        clear hK K
        try simp only [Act.put, List.setIfInBounds_toArray, List.set_cons_zero, List.set_cons_succ]
        refine held_take (i := 19) (v := ?_) (some 38) rfl rfl (by kernel_rfl) (by kernel_rfl) (by kernel_rfl) (fun _ _ _ h => h) (Or.inl ⟨by rfl, ?_⟩) hHeld ?_
        rotate_left 1
        · rintro w' ⟨s0, s1⟩; go_simp; try with_reducible rfl
        try simp only [Act.put, List.setIfInBounds_toArray, List.set_cons_zero, List.set_cons_succ]
        refine held_take (i := 20) (v := ?_) (some 39) rfl rfl (by kernel_rfl) (by kernel_rfl) (by kernel_rfl) (fun _ _ _ h => h) (Or.inl ⟨by rfl, ?_⟩) hHeld ?_
        rotate_left 1
        · rintro w' ⟨s0, s1⟩; go_simp; try with_reducible rfl
        try simp only [Act.put, List.setIfInBounds_toArray, List.set_cons_zero, List.set_cons_succ]
        refine wpAnyH_done (by kernel_rfl) ?_ _
        have f3 := q2.out.hp.box.frozen 3
        have HX2 := Lib.hid ((HX.out.rel HRd.out).st s2.out)
        go_wp2_with (fail)
        go_roundw
        case rel =>
          refine ⟨u2, if c1 = 1 then some ⟨ga, off, none⟩ else some ⟨ga, off + 1, none⟩, c1 - 1, _, D1, Lib.hid (by rw [← HKL.out]; exact q2.out.tail rfl), HI2, HF2, Lib.hid ((HS.out.on17 (St.of_rel17 HRd.out)).on17 (s2.out.on17 ⟨fun j hj => .inl (hj.imp id (fun ⟨a, ha, e⟩ => ⟨_, rfl, (tail_block ha).symm.trans e⟩)), Ke.set17 (p := ⟨p, 3, none⟩) (.inl (.inl rfl)) _⟩)), Lib.hid ⟨HX2.out.1.far (fun e => HX2.out.2 (.inl (.inl e))) _, fun hj => HX2.out.2 (hj.imp id (fun ⟨a, ha, e⟩ => ⟨_, rfl, (tail_block ha).symm.trans e⟩))⟩⟩
        case measure =>
          have hT := (q2.out.tail rfl).hp.box.cell 3
          rw [HKL.out] at hT
          rw [hlen]
          exact lt_of_len (lenAt_of (n := k) hT)
      · have HP := Lib.hid (fun (w1 : World) (hrr : Rel w1 w1) (h : Rq w1 p u1 m g L1 (some ⟨ga, off, none⟩) c1 (d :: D1)) => KP.out w1 u1 L1 _ c1 d D1 50 L1 hrr HI.out (.inr ⟨rfl, by omega, rfl⟩) h)
        have HF := Lib.hid (show (L1, d :: D1) = fillQ m (-T) (popH L) D by rw [← HF.out]; conv => rhs; unfold fillQ; rw [if_neg hl])
        clear hl hk
        go_wp2_with (fail)
        refine wp_region_held_drew (S := (fun w' => w'.cell? ⟨p, 3, none⟩ = some (.slice (some ⟨ga, off, none⟩) (k + 1) c1) ∧ w'.cell? ⟨ga, off, none⟩ = some (.int .i64 d))) (by kernel_rfl) ⟨k1, k2⟩ (fun hHeld => ?_)
        refine held_take (i := 0) (v := ?_) (some 19) rfl rfl (by kernel_rfl) (by kernel_rfl) (by kernel_rfl) (fun _ _ _ h => h) (Or.inl ⟨by rfl, ?_⟩) hHeld ?_
        rotate_left 1
        · rintro w' ⟨s0, s1⟩; go_simp; try with_reducible rfl
        try simp only [Act.put, List.setIfInBounds_toArray, List.set_cons_zero, List.set_cons_succ]
        refine held_take (i := 1) (v := ?_) (some 20) rfl rfl (by kernel_rfl) (by kernel_rfl) (by kernel_rfl) (fun _ _ _ h => h) (Or.inl ⟨by rfl, ?_⟩) hHeld ?_
        rotate_left 1
        · rintro w' ⟨s0, s1⟩; go_simp; try with_reducible rfl
        try simp only [Act.put, List.setIfInBounds_toArray, List.set_cons_zero, List.set_cons_succ]
        refine held_take (i := 2) (v := ?_) (some 21) rfl rfl (by kernel_rfl) (by kernel_rfl) (by kernel_rfl) (fun _ _ _ h => h) (Or.inl ⟨by rfl, ?_⟩) hHeld ?_
        rotate_left 1
        · rintro w' ⟨s0, s1⟩; go_simp; try with_reducible rfl
        try simp only [Act.put, List.setIfInBounds_toArray, List.set_cons_zero, List.set_cons_succ]
        refine held_take (i := 3) (v := ?_) (some 22) rfl rfl (by kernel_rfl) (by kernel_rfl) (by kernel_rfl) (fun _ _ _ h => h) (Or.inl ⟨by rfl, ?_⟩) hHeld ?_
        rotate_left 1
        · rintro w' ⟨s0, s1⟩; go_simp; try with_reducible rfl
        try simp only [Act.put, List.setIfInBounds_toArray, List.set_cons_zero, List.set_cons_succ]
        refine held_take (i := 4) (v := ?_) (some 23) rfl rfl (by kernel_rfl) (by kernel_rfl) (by kernel_rfl) (fun _ _ _ h => h) (Or.inl ⟨by rfl, ?_⟩) hHeld ?_
        rotate_left 1
        · rintro w' ⟨s0, s1⟩; go_simp; try with_reducible rfl
        try simp only [Act.put, List.setIfInBounds_toArray, List.set_cons_zero, List.set_cons_succ]
        refine held_take (i := 5) (v := ?_) (some 24) rfl rfl (by kernel_rfl) (by kernel_rfl) (by kernel_rfl) (fun _ _ _ h => h) (Or.inl ⟨by rfl, ?_⟩) hHeld ?_
        rotate_left 1
        · rintro w' ⟨s0, s1⟩; go_simp; try with_reducible rfl
        try simp only [Act.put, List.setIfInBounds_toArray, List.set_cons_zero, List.set_cons_succ]
        refine held_take (i := 6) (v := ?_) (some 25) rfl rfl (by kernel_rfl) (by kernel_rfl) (by kernel_rfl) (fun _ _ _ h => h) (Or.inl ⟨by rfl, ?_⟩) hHeld ?_
        rotate_left 1
        · rintro w' ⟨s0, s1⟩; go_simp; try with_reducible rfl
        try simp only [Act.put, List.setIfInBounds_toArray, List.set_cons_zero, List.set_cons_succ]
        refine held_take (i := 7) (v := ?_) (some 26) rfl rfl (by kernel_rfl) (by kernel_rfl) (by kernel_rfl) (fun _ _ _ h => h) (Or.inl ⟨by rfl, ?_⟩) hHeld ?_
        rotate_left 1
        · rintro w' ⟨s0, s1⟩; go_simp; try with_reducible rfl
        try simp only [Act.put, List.setIfInBounds_toArray, List.set_cons_zero, List.set_cons_succ]
        refine held_take (i := 8) (v := ?_) (some 27) rfl rfl (by kernel_rfl) (by kernel_rfl) (by kernel_rfl) (fun _ _ _ h => h) (Or.inl ⟨by rfl, ?_⟩) hHeld ?_
        rotate_left 1
        · rintro w' ⟨s0, s1⟩; go_simp; try with_reducible rfl
        try simp only [Act.put, List.setIfInBounds_toArray, List.set_cons_zero, List.set_cons_succ]
        refine held_take (i := 9) (v := ?_) (some 28) rfl rfl (by kernel_rfl) (by kernel_rfl) (by kernel_rfl) (fun _ _ _ h => h) (Or.inl ⟨by rfl, ?_⟩) hHeld ?_
        rotate_left 1
        · rintro w' ⟨s0, s1⟩; go_simp; try with_reducible rfl
        try simp only [Act.put, List.setIfInBounds_toArray, List.set_cons_zero, List.set_cons_succ]
        refine held_take (i := 10) (v := ?_) (some 29) rfl rfl (by kernel_rfl) (by kernel_rfl) (by kernel_rfl) (fun _ _ _ h => h) (Or.inl ⟨by rfl, ?_⟩) hHeld ?_
        rotate_left 1
        · rintro w' ⟨s0, s1⟩; go_simp; try with_reducible rfl
        try simp only [Act.put, List.setIfInBounds_toArray, List.set_cons_zero, List.set_cons_succ]
        refine held_take (i := 11) (v := ?_) (some 30) rfl rfl (by kernel_rfl) (by kernel_rfl) (by kernel_rfl) (fun _ _ _ h => h) (Or.inl ⟨by rfl, ?_⟩) hHeld ?_
        rotate_left 1
        · rintro w' ⟨s0, s1⟩; go_simp; try with_reducible rfl
        try simp only [Act.put, List.setIfInBounds_toArray, List.set_cons_zero, List.set_cons_succ]
        refine held_take (i := 12) (v := ?_) (some 31) rfl rfl (by kernel_rfl) (by kernel_rfl) (by kernel_rfl) (fun _ _ _ h => h) (Or.inl ⟨by rfl, ?_⟩) hHeld ?_
        rotate_left 1
        · rintro w' ⟨s0, s1⟩; go_simp; try with_reducible rfl
        try simp only [Act.put, List.setIfInBounds_toArray, List.set_cons_zero, List.set_cons_succ]
        refine held_take (i := 13) (v := ?_) (some 32) rfl rfl (by kernel_rfl) (by kernel_rfl) (by kernel_rfl) (fun _ _ _ h => h) (Or.inl ⟨by rfl, ?_⟩) hHeld ?_
        rotate_left 1
        · rintro w' ⟨s0, s1⟩; go_simp; try with_reducible rfl
        try simp only [Act.put, List.setIfInBounds_toArray, List.set_cons_zero, List.set_cons_succ]
        refine held_take (i := 14) (v := ?_) (some 33) rfl rfl (by kernel_rfl) (by kernel_rfl) (by kernel_rfl) (fun _ _ _ h => h) (Or.inl ⟨by rfl, ?_⟩) hHeld ?_
        rotate_left 1
        · rintro w' ⟨s0, s1⟩; go_simp; try with_reducible rfl
        try simp only [Act.put, List.setIfInBounds_toArray, List.set_cons_zero, List.set_cons_succ]
        refine held_take (i := 15) (v := ?_) (some 34) rfl rfl (by kernel_rfl) (by kernel_rfl) (by kernel_rfl) (fun _ _ _ h => h) (Or.inl ⟨by rfl, ?_⟩) hHeld ?_
        rotate_left 1
        · rintro w' ⟨s0, s1⟩; go_simp; try with_reducible rfl
        try simp only [Act.put, List.setIfInBounds_toArray, List.set_cons_zero, List.set_cons_succ]
        refine held_take (i := 16) (v := ?_) (some 35) rfl rfl (by kernel_rfl) (by kernel_rfl) (by kernel_rfl) (fun _ _ _ h => h) (Or.inl ⟨by rfl, ?_⟩) hHeld ?_
        rotate_left 1
        · rintro w' ⟨s0, s1⟩; go_simp; try with_reducible rfl
        try simp only [Act.put, List.setIfInBounds_toArray, List.set_cons_zero, List.set_cons_succ]
        refine held_take (i := 17) (v := ?_) (some 36) rfl rfl (by kernel_rfl) (by kernel_rfl) (by kernel_rfl) (fun _ _ _ h => h) (Or.inl ⟨by rfl, ?_⟩) hHeld ?_
        rotate_left 1
        · rintro w' ⟨s0, s1⟩; go_simp; try with_reducible rfl
        try simp only [Act.put, List.setIfInBounds_toArray, List.set_cons_zero, List.set_cons_succ]
        refine held_one (j := 18) (by kernel_rfl) rfl (fun K hK => ?_)
        try simp only [List.getElem_toArray, List.getElem_cons_succ, List.getElem_cons_zero]
        rw [if_pos (by rfl)]
        go_simp
        go_at_call 32
        try rw [HWr.out]
        (with_reducible refine (HP.out wr.drew HRr.out HQd.out).mono ?_)
        rintro e w2 ⟨u2, rfl, q2, s2⟩
        obtain ⟨k3, k4⟩ := HD.out _ w2 u2 q2.out (s2.out.self17 HRr.out)
        refine hK.out _ _ ⟨k3, k4⟩ (fun hHeld => ?_)
        clear hK K
        try simp only [Act.put, List.setIfInBounds_toArray, List.set_cons_zero, List.set_cons_succ]
        refine held_take (i := 19) (v := ?_) (some 38) rfl rfl (by kernel_rfl) (by kernel_rfl) (by kernel_rfl) (fun _ _ _ h => h) (Or.inl ⟨by rfl, ?_⟩) hHeld ?_
        rotate_left 1
        · rintro w' ⟨s0, s1⟩; go_simp; try with_reducible rfl
        try simp only [Act.put, List.setIfInBounds_toArray, List.set_cons_zero, List.set_cons_succ]
        refine held_take (i := 20) (v := ?_) (some 39) rfl rfl (by kernel_rfl) (by kernel_rfl) (by kernel_rfl) (fun _ _ _ h => h) (Or.inl ⟨by rfl, ?_⟩) hHeld ?_
        rotate_left 1
        · rintro w' ⟨s0, s1⟩; go_simp; try with_reducible rfl
        try simp only [Act.put, List.setIfInBounds_toArray, List.set_cons_zero, List.set_cons_succ]
        refine wpAnyH_done (by kernel_rfl) ?_ _
        have HX2 := Lib.hid ((HX.out.rel HRd.out).st s2.out)
        have y0 := HX2.out.1.cell 0
        go_wp2_with (fail)
        refine bodyPost_ret (v := .tuple #[.int .i64 x, .bool b]) (by simp [results, Try.results15, go_sem]) rfl ⟨rfl, _, ⟨p, u2, _, c1, rfl, rfl, by rw [← HF.out]; exact q2.out, by rw [← HF.out]; exact HI.out⟩, (HS.out.on17 (St.of_rel17 HRd.out)).on17 s2.out⟩
end Go.Proofs.Ytndmnlgancnbkaa
