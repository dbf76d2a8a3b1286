/- Layer 16, the landed code: Push. -/
import Derived.Test.YtndmnlgancnbkaaZL
import Derived.Test.YtndmnlgancnbkaaZ00
import Derived.Test.YtndmnlgancnbkaaZ01
import Derived.Test.YtndmnlgancnbkaaZ02
import Derived.Test.YtndmnlgancnbkaaZ03
import Derived.Test.YtndmnlgancnbkaaZ05
import Derived.Test.YtndmnlgancnbkaaZ09
import Derived.Test.YtndmnlgancnbkaaZ10
import Derived.Test.YtndmnlgancnbkaaZ11
namespace Go.Proofs.Ytndmnlgancnbkaa
open Go.RowKit Go.Lib
set_option linter.unusedVariables false
set_option linter.unusedSimpArgs false
theorem item_info : (Try.prog.info? 64).map (fun i => (i.zero, i.size, i.bytes)) = some (some (.agg #[.int .i64 0, .int .i64 0]), 2, 16) := by kernel_rfl
/-- Behind an append of one, and the store of the slice. -/
theorem Hm.more {w w' : World} {g b c n q' c' : Nat} {m : Int} {A : Option Addr} {l : List It} {f : Int → Option Int} {z : Nat} {x : It} (h : Hm w g b m (.slice A n c) l f z) (hn : l.length = n)
    (ho : w'.ownsRow 0 64 2 (.slice (some ⟨q', 0, none⟩) (n + 1) c') (n + 1) (l.flatMap clH ++ clH x)) (hg : w.grownBy w' (Value.slice A n c).ownBlock) :
    Hm (w'.setCell ⟨g, 1, none⟩ (.slice (some ⟨q', 0, none⟩) (n + 1) c')) g b m (.slice (some ⟨q', 0, none⟩) (n + 1) c') (l ++ [x]) f z ∧ Ke (SoF g b (.slice A n c)) w (w'.setCell ⟨g, 1, none⟩ (.slice (some ⟨q', 0, none⟩) (n + 1) c')) := by
  have hb := h.box.grown hg h.g_ne
  have hr : RowOwn 64 clH 2 w' 0 (.slice (some ⟨q', 0, none⟩) (n + 1) c') (l ++ [x]) := RowOwn.more hn ho
  have hp : PlAt w' b f z := h.pl.blk (hg.block b h.pl.lt h.b_row)
  exact ⟨⟨hb.set_ 1 _, own_set hr.row (p := ⟨g, 1, none⟩) (own_ne hr.row hb (by decide)) _, hp.set (p := ⟨g, 1, none⟩) (hp.ne hb) _⟩,
    (Ke.grown hg (fun k hk => .inr (.inr hk.symm))).on (Ke.set (p := ⟨g, 1, none⟩) (.inl rfl) _)⟩
set_option maxRecDepth 100000 in
set_option maxHeartbeats 4000000 in
theorem lpush_same {w : World} {p : Option Addr} {k : Int} (pr : Int) (HP : Hid (Calls Try.prog 43 #[.pointer p, .int .i64 k] w fun e w' => ∃ i : Int, e = .returned (.tuple #[.int .i64 i, .bool true]) ∧ Rel w w')) :
    Calls Try.prog 45 #[.pointer p, .int .i64 k, .int .i64 pr] w fun e w' => e = .returned (.int .i64 1) ∧ Rel w w' := by
  go_enter Try.func45, Try.ntmps45
  go_wp2_with (go_at_call 43; (with_reducible refine HP.out.mono ?_); rintro e w1 ⟨i, rfl, r1⟩; have R1 := Lib.hid r1; clear r1)
  go_ret
  exact ⟨rfl, R1.out⟩
set_option maxRecDepth 100000 in
set_option maxHeartbeats 4000000 in
theorem lpush_nil (w : World) (hr : Rel w w) (k pr : Int) :
    Calls Try.prog 45 #[.pointer none, .int .i64 k, .int .i64 pr] w fun e w' => e = .returned (.int .i64 50) ∧ Rel w w' := by
  have HP := Lib.hid (place_nil w hr k)
  clear hr
  go_enter Try.func45, Try.ntmps45
  go_upto_region 4 with (go_at_call 43; (with_reducible refine HP.out.mono ?_); rintro e w1 ⟨rfl, r1⟩; have R1 := Lib.hid r1; clear r1)
  go_quiet (fail)
  all_goals
    go_wp2_with (fail)
    go_ret
    exact ⟨rfl, by first | exact R1.out | exact R1.out.drew | exact R1.out.drewN _⟩
set_option maxRecDepth 100000 in
set_option maxHeartbeats 4000000 in
theorem lpush_full {w : World} {g b : Nat} {u : Value} {m : Int} {l : List It} (hb : Hb w g b m u l) (hm : m ≤ (l.length : Int)) (k pr : Int) (HP : Hid (Calls Try.prog 43 #[.pointer (some ⟨g, 0, none⟩), .int .i64 k] w fun e w' => e = .returned (.tuple #[.int .i64 0, .bool false]) ∧ Rel w w')) :
    Calls Try.prog 45 #[.pointer (some ⟨g, 0, none⟩), .int .i64 k, .int .i64 pr] w fun e w' => e = .returned (.int .i64 50) ∧ Rel w w' := by
  obtain ⟨A, c, rfl⟩ := hb.slice_of
  have HB := Lib.hid hb
  obtain ⟨n, hn⟩ : ∃ n, l.length = n := ⟨_, rfl⟩
  rw [hn] at hm HB
  have hd : decide (m ≤ (n : Int)) = true := decide_eq_true hm
  clear hb hn
  go_enter Try.func45, Try.ntmps45
  go_upto_region 4 with (go_at_call 43; (with_reducible refine HP.out.mono ?_); rintro e w1 ⟨rfl, r1⟩; have R1 := Lib.hid r1; have HM := Lib.hid (HB.out.hm.rel r1); obtain ⟨⟨k0, k1, k2⟩, _⟩ := HM.out.box.three; clear r1)
  go_quiet (fail)
  all_goals
    go_wp2_with (fail)
    go_ret
    exact ⟨rfl, by first | exact R1.out | exact R1.out.drew | exact R1.out.drewN _⟩
set_option maxRecDepth 100000 in
set_option maxHeartbeats 4000000 in
theorem lpush_main {w : World} {g b : Nat} {u : Value} {m : Int} {l L : List It} (hr : Rel w w) (hb : Hb w g b m u l) (ho : Rowed l L) (hh : OrdH l) (hm : ¬ m ≤ (l.length : Int)) (hm2 : m ≤ 1000) (k pr : Int) (hk : i64 k) (hp : i64 pr) (hn0 : hasH L k = false) (HP : Hid (Calls Try.prog 43 #[.pointer (some ⟨g, 0, none⟩), .int .i64 k] w fun e w' => e = .returned (.tuple #[.int .i64 0, .bool false]) ∧ Rel w w')) :
    Calls Try.prog 45 #[.pointer (some ⟨g, 0, none⟩), .int .i64 k, .int .i64 pr] w fun e w' => e = .returned (.int .i64 0) ∧ ∃ u' l', Hb w' g b m u' l' ∧ Rowed l' (insH L (k, pr)) ∧ OrdH l' ∧ St (SoF g b u) (SoF g b u') w w' := by
  obtain ⟨A, c, rfl⟩ := hb.slice_of
  obtain ⟨n, hn⟩ : ∃ n, l.length = n := ⟨_, rfl⟩
  rw [hn] at hb hm ⊢
  have HB := Lib.hid hb
  have HR := Lib.hid hr
  have HN := Lib.hid hn
  have HO := Lib.hid ho
  have HD := Lib.hid hh
  have HK := Lib.hid (⟨hk, hp⟩ : i64 k ∧ i64 pr)
  have HH := Lib.hid hn0
  have hd : decide (m ≤ (n : Int)) = false := decide_eq_false hm
  have hn1 : n + 1 ≤ 1000 := by omega
  clear hb hr hn ho hh hk hp hn0
  go_enter Try.func45, Try.ntmps45
  go_upto_region 4 with (go_at_call 43; (with_reducible refine HP.out.mono ?_); rintro e w1 ⟨rfl, r1⟩; have R1 := Lib.hid r1; have HM := Lib.hid (HB.out.hm.rel r1); obtain ⟨⟨k0, k1, k2⟩, _⟩ := HM.out.box.three; clear r1)
  go_quiet (fail)
  have R2 := Lib.hid (R1.out.drewN nq)
  have HM2 := Lib.hid (HM.out.rel (R1.out.self.drewN nq))
  obtain ⟨W1, hW1⟩ : ∃ W, w1.drewN nq = W := ⟨_, rfl⟩
  rw [hW1] at R2 HM2
  try rw [hW1]
  clear hW1 k0 k1 k2 HM R1
  obtain ⟨⟨k0, k1, k2⟩, f0, f1, f2⟩ := HM2.out.box.three
  obtain ⟨i0, hi0, hz⟩ := Option.map_eq_some_iff.1 item_info
  simp only [Prod.mk.injEq] at hz
  obtain ⟨hz0, hz1, hz2⟩ := hz
  have HM3 := Lib.hid (HM2.out.rel (R2.out.self.alloc (.cells #[.int .i64 k, .int .i64 pr] 64)))
  have R3 := Lib.hid (R2.out.alloc (.cells #[.int .i64 k, .int .i64 pr] 64))
  have HRow := Lib.hid (show (W1.alloc (.cells #[.int .i64 k, .int .i64 pr] 64)).ownsRow 0 64 2 (.slice A n c) n (l.flatMap clH) by have := HM3.out.row.row; rw [HN.out] at this; exact this)
  have HNw := Lib.hid (show ∀ (j : Nat) (u : Value), ([.int .i64 k, .int .i64 pr] : List Value)[j]? = some u → (W1.alloc (.cells #[.int .i64 k, .int .i64 pr] 64)).cell? ((⟨W1.heap.size, 0, none⟩ : Addr).add j) = some u from row_news15 (cl := clH) (k := 2) (b := [(k, pr)]) clH_len (RowAt.of_bk (cl := clH) (k := 2) clH_len (T := 64) (xs := [(k, pr)]) (Bk.new W1 64 #[.int .i64 k, .int .i64 pr])))
  have HOne := Lib.hid (show ∀ v ∈ ([.int .i64 k, .int .i64 pr] : List Value), v.oneCell' = true from clH_one (k, pr))
  go_upto_region 8 with (at_builtin; (refine wpList_append_lies _ rfl _ _ 29 rfl 0 64 i0 (.agg #[.int .i64 0, .int .i64 0]) 2 16 Try.underlying29 hi0 hz0 hz1 hz2 rfl (by decide) (.slice A n c) n (l.flatMap clH) rfl HRow.out ⟨W1.heap.size, 0, none⟩ 1 1 [.int .i64 k, .int .i64 pr] rfl rfl HNw.out HOne.out (by decide) (by unfold maxLen; omega) (by omega) (Nat.zero_le _) _ rfl ?_); intro q2 c2 w2 own2 gr2 at2 lt2; have HO2 := Lib.hid own2; have HG2 := Lib.hid gr2; have HA2 := Lib.hid at2; have HB2 := Lib.hid (HM3.out.box.grown gr2 HM3.out.g_ne); clear own2 gr2 at2 k0 k1 k2 f0 f1 f2; obtain ⟨⟨k0, k1, k2⟩, f0, f1, f2⟩ := HB2.out.three)
  obtain ⟨HM4, HK4⟩ := HM3.out.more (x := (k, pr)) HN.out HO2.out HG2.out
  obtain ⟨W4, hW4⟩ : ∃ W, w2.setCell ⟨g, 1, none⟩ (.slice (some ⟨q2, 0, none⟩) (n + 1) c2) = W := ⟨_, rfl⟩
  rw [hW4] at HM4 HK4
  try rw [hW4]
  have HM4 := Lib.hid HM4
  have HK4 := Lib.hid ((Ke.of_rel R3.out).on HK4)
  clear hW4 HM3 HM2 HRow HNw HOne HB2 k0 k1 k2 f0 f1 f2
  obtain ⟨⟨k0, k1, k2⟩, f0, f1, f2⟩ := HM4.out.box.three
  have HP4 := Lib.hid (show PlAt W4 b (posf l) n by have := HM4.out.pl; rw [HN.out] at this; exact this)
  have HQ := Lib.hid (show (posf l k).isSome = false by rw [no_place HO.out HH.out]; rfl)
  have hwk := i64_wf HK.out.1
  go_upto_region 9 with (at_mapUpdate; (refine wp_place _ rfl _ _ _ rfl b n (posf l) rfl HP4.out (by unfold maxLen; omega) k (n : Int) rfl hwk rfl ?_); intro w5 p5 g5; rw [HQ.out] at p5; have HP5 := Lib.hid p5; have HG5 := Lib.hid g5; clear p5 g5)
  obtain ⟨HM5, HK5⟩ := HM4.out.mapped HP5.out HG5.out
  have HGr := Lib.hid (show Gr w (SoF g b (.slice A n c)) (SoF g b (.slice (some ⟨q2, 0, none⟩) (n + 1) c2)) from by
    rintro j (rfl | rfl | hj)
    · exact .inl (.inl rfl)
    · exact .inl (.inr (.inl rfl))
    · injection hj with hj
      rcases HA2.out with e | e
      · exact .inl (.inr (.inr (by rw [hj]; exact e.symm)))
      · exact .inr (by rw [hj]; show w.heap.size ≤ q2; rw [e]; exact R3.out.size))
  have HK6 := Lib.hid (HK4.out.trans HGr.out HK5)
  obtain ⟨e1, e2⟩ := pos_snoc HO.out.dst (x := (k, pr)) (fun i hi e => by
    have : hasH L k = true := has_iff.2 ⟨_, (HO.out.mem _).1 (at_mem hi), e⟩
    rw [HH.out] at this; cases this)
  rw [HN.out] at e1
  have HB5 := Lib.hid (HM5.done e1 (by rw [List.length_append, HN.out]; rfl) e2 (fun z hz => by
    rcases List.mem_append.1 hz with h | h
    · exact HB.out.fit z h
    · rw [List.mem_singleton] at h; subst h; exact HK.out) (by rw [List.length_append, HN.out]; exact hn1))
  have HO5 := Lib.hid (rowed_snoc HO.out (x := (k, pr)) HH.out)
  have hup := (push_up HD.out (k, pr)).any
  rw [HN.out] at hup
  have HRi := Lib.hid (rise_any HB5.out (HK6.out.rel_to HR.out) HO5.out (i := n) (by rw [List.length_append, HN.out]; exact Nat.lt_succ_self n) hup)
  have HLn := Lib.hid (show (insH L (k, pr)).length = n + 1 by rw [ins_len, ← HO.out.len, HN.out])
  clear e1 e2 hup HM5 HK5 k0 k1 k2 f0 f1 f2 HP4 HQ hwk HM4 HK4
  go_wp2_with (go_at_call 58; (with_reducible refine HRi.out.mono ?_); rintro e w6 ⟨rfl, l6, a1, a2, a3, a4⟩; have A1 := Lib.hid a1; have A2 := Lib.hid a2; have A3 := Lib.hid a3; have A4 := Lib.hid a4; clear a1 a2 a3 a4)
  go_ret
  refine ⟨rfl, _, l6, A1.out, A2.out, dn_done A3.out (fun j j0 hj hp => ?_), HGr.out, HK6.out.trans HGr.out A4.out⟩
  rw [A2.out.len, HLn.out] at hj
  unfold parN at hp
  omega
theorem lpush16 {w : World} {v : Value} {S : Nat → Prop} {m : Int} {L : List It} (k p : Int) (hr : Rel w w) (h : LHp w v S m L) (hk : i64 k) (hp : i64 p) :
    Calls Try.prog 45 #[v, .int .i64 k, .int .i64 p] w fun e w' => e = .returned (.int .i64 (pushE m L k)) ∧ ∃ S', LHp w' v S' m (pushL m L k p) ∧ St S S' w w' := by
  have hwf := i64_wf hk
  have hE := h
  rcases h with ⟨rfl, _, rfl, rfl⟩ | ⟨g, b, u, l, rfl, rfl, hb, ho, hh, m1, m2, m3⟩
  · exact (lpush_nil w hr k p).mono fun e w' q => ⟨q.1, S, hE.rel q.2, St.of_rel q.2⟩
  · have HP := place_any hb hr k hwf
    cases hs : hasH L k with
    | true =>
      obtain ⟨i, y, hi, hx, hp⟩ := has_place ho hs
      rw [hp] at HP
      have e1 : pushE m L k = 1 := by unfold pushE; rw [if_pos hs]
      have e2 : pushL m L k p = L := by unfold pushL; rw [e1]; rfl
      rw [e1, e2]
      exact (lpush_same p (Lib.hid (HP.mono fun e w' q => ⟨(i : Int), q.1, q.2⟩))).mono fun e w' q => ⟨q.1, _, hE.rel q.2, St.of_rel q.2⟩
    | false =>
      rw [no_place ho hs] at HP
      have hns : ¬ hasH L k = true := by rw [hs]; simp
      by_cases hm : m ≤ (L.length : Int)
      · have e1 : pushE m L k = 50 := by unfold pushE; rw [if_neg hns, if_pos hm]
        have e2 : pushL m L k p = L := by unfold pushL; rw [e1]; rfl
        rw [e1, e2]
        exact (lpush_full hb (by rw [ho.len]; exact hm) k p (Lib.hid HP)).mono fun e w' q => ⟨q.1, _, hE.rel q.2, St.of_rel q.2⟩
      · have e1 : pushE m L k = 0 := by unfold pushE; rw [if_neg hns, if_neg hm]
        have e2 : pushL m L k p = insH L (k, p) := by unfold pushL; rw [e1]; rfl
        rw [e1, e2]
        refine (lpush_main hr hb ho hh (by rw [ho.len]; exact hm) m2 k p hk hp hs (Lib.hid HP)).mono ?_
        rintro e w' ⟨he, u', l', a1, a2, a3, a4⟩
        exact ⟨he, SoF g b u', .inr ⟨g, b, u', l', rfl, rfl, a1, a2, a3, m1, m2, by rw [ins_len]; omega⟩, a4⟩
end Go.Proofs.Ytndmnlgancnbkaa
