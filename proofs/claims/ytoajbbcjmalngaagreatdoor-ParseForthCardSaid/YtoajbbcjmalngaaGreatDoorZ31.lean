/- ParseForth, over what the program is asked. -/
import Derived.Test.YtoajbbcjmalngaaGreatDoorZ30
namespace Go.Proofs.YtoajbbcjmalngaaGreatDoor
open Go.RowKit Go.Lib
set_option linter.unusedVariables false
set_option linter.unusedSimpArgs false

theorem deep_as8 (H : TreeOk) (x : Ex) (n : Int) (hn : Hid ((deep x : Int) = n)) (S : Nat → Prop) (e : El) (w0 w : World) (hr : Rel w0 w) (h : ExAt S w e x) (hz : size x ≤ 100000) :
    Calls Tryz.prog 17 #[EV e] w fun r w' => r = .returned (.int .i64 n) ∧ Rel w0 w' := deep_as H x n hn S e w0 w hr h hz
/-- The texts that are parsed, one behind the other. -/
def fourS (a b c d : ByteArray) : Array Value := #[.string a, .string b, .string c, .string d]
theorem four_cell {w : World} {q : Nat} {a b c d : ByteArray} (h : Bk w q 9 (fourS a b c d)) (m : Nat) (ha : a.size ≤ m) (hb : b.size ≤ m) (hc : c.size ≤ m) (hd : d.size ≤ m) (j : Nat) (hj : j < 4) : ∃ X : ByteArray, w.cell? ⟨q, j, none⟩ = some (.string X) ∧ X.size ≤ m := by
  have hcell := h.cell j
  have : j = 0 ∨ j = 1 ∨ j = 2 ∨ j = 3 := by omega
  rcases this with rfl | rfl | rfl | rfl
  · exact ⟨a, hcell, ha⟩
  · exact ⟨b, hcell, hb⟩
  · exact ⟨c, hcell, hc⟩
  · exact ⟨d, hcell, hd⟩
set_option maxRecDepth 100000 in
set_option maxHeartbeats 8000000 in
theorem ParseForth_at (H : TreeOk) (HP : ParseOk) (s : ByteArray) (hs : s.size ≤ 140737488351232) (A : Option Addr) (c : Nat) (L : List Int) (at_ : Int) (k0 : -9223372036854775808 ≤ at_) (k1 : at_ ≤ 9223372036854775807) (M : ByteArray) (hM : M.size ≤ 140737488351232) (w : World) (hr : Rel w w) (hi : IntsIn w A c L) :
    Calls Tryz.prog 4 #[.string s, .slice A L.length c, .int .i64 at_, .string M] w fun e w' => e = .returned (.bool true) ∧ Rel w w' := by
  have H := Lib.hid H
  have HP := Lib.hid HP
  have HR := Lib.hid hr
  have HI := Lib.hid hi
  obtain ⟨y, hy⟩ : ∃ x, strat L = x := ⟨_, rfl⟩
  have HSx := Lib.hid (fun (w0 w1 : World) (hr : Rel w0 w1) (h : IntsIn w1 A c L) => strat_any A c L w0 w1 hr h)
  have zy : size y ≤ 1000000 := by have := strat_size L; rw [hy] at this; omega
  rw [hy] at HSx
  clear hy hi
  obtain ⟨T, hT⟩ : ∃ T, B (prT y) = T := ⟨_, rfl⟩
  obtain ⟨E, hE⟩ : ∃ E, prE y = E := ⟨_, rfl⟩
  have zT : T.size ≤ 2000 := by
    rw [← hT, B_size]
    unfold prT
    split
    · rename_i h; exact right_len h
    · simp
  have P1 := Lib.hid (And.intro hT hE)
  clear hT hE
  obtain ⟨pb0, pb1⟩ := pk_bd at_ ((T.size : Int) + 1) (by omega)
  obtain ⟨k, hk⟩ : ∃ k : Nat, pk at_ ((T.size : Int) + 1) = (k : Int) := ⟨(pk at_ ((T.size : Int) + 1)).toNat, by omega⟩
  have hkT : k ≤ T.size := by omega
  have HK := Lib.hid hk
  obtain ⟨U, hU⟩ : ∃ U, T.extract 0 k = U := ⟨_, rfl⟩
  obtain ⟨Q1, hQ1⟩ : ∃ Q, T.extract (min ((k : Int) + (M.size : Int)) (T.size : Int)).toNat T.size = Q := ⟨_, rfl⟩
  obtain ⟨Q2, hQ2⟩ : ∃ Q, T.extract k T.size = Q := ⟨_, rfl⟩
  have zU : U.size ≤ 2000 := by rw [← hU, ByteArray.size_extract]; omega
  have zQ1 : Q1.size ≤ 2000 := by rw [← hQ1, ByteArray.size_extract]; omega
  have zQ2 : Q2.size ≤ 2000 := by rw [← hQ2, ByteArray.size_extract]; omega
  have s1 : ¬ (9223372036854775807 < U.size + M.size) := by omega
  have s2 : ¬ (9223372036854775807 < U.size + M.size + Q1.size) := by omega
  have s3 : ¬ (9223372036854775807 < U.size + M.size + Q2.size) := by omega
  have hw1 : IntKind.i64.wrap ((T.size : Int) + 1) = (T.size : Int) + 1 := IntWalk.i64_in _ (by omega)
  have hw2 : IntKind.i64.wrap ((k : Int) + (M.size : Int)) = (k : Int) + (M.size : Int) := IntWalk.i64_in _ (by omega)
  have hp1 : (0 : Int) < (T.size : Int) + 1 := by omega
  have hp2 : (T.size : Int) + 1 ≤ 9223372036854775807 := by omega
  have hm1 : 0 ≤ min ((k : Int) + (M.size : Int)) (T.size : Int) := by omega
  have hm2 : min ((k : Int) + (M.size : Int)) (T.size : Int) ≤ (T.size : Int) := by omega
  clear pb0 pb1 hk
  go_enter Tryz.func4, Tryz.ntmps4
  go_wp2_with (first
    | (go_at_call 8; (with_reducible refine (awake8_any HP.out _ _ HR.out).mono ?_); rintro e w1 ⟨rfl, h1⟩)
    | (go_at_call 9; (with_reducible refine (HSx.out _ _ h1.self (HI.out.rel h1)).mono ?_); rintro e w2 ⟨vx, rfl, ex, h2⟩)
    | (go_at_call 15; (with_reducible refine (rprint_as y T E P1 _ vx _ _ h2.self ex zy).mono ?_); rintro e w3 ⟨rfl, h3⟩; have R3 := Lib.hid ((h1.trans h2).trans h3))
    | (go_at_call 16; (with_reducible refine (pk8_as at_ ((T.size : Int) + 1) _ HK k0 k1 hp1 hp2 _).mono ?_); rintro e w5 ⟨rfl, rfl⟩))
  go_region_law (fail)
  go_wp2_with (fail)
  simp only [Act.put, List.getElem_toArray, List.getElem_cons_succ, List.getElem_cons_zero, List.setIfInBounds_toArray, List.set_cons_zero, List.set_cons_succ]
  have hB := (Bk.new w3 9 #[.string s, .string (U ++ M ++ Q1), .string (U ++ M ++ Q2), .string U]).drew
  have hR4 := (h3.self.alloc (.cells #[.string s, .string (U ++ M ++ Q1), .string (U ++ M ++ Q2), .string U] 9)).drew
  have za : (U ++ M ++ Q1).size ≤ 200000000000000 := by rw [ByteArray.size_append, ByteArray.size_append]; omega
  have zb : (U ++ M ++ Q2).size ≤ 200000000000000 := by rw [ByteArray.size_append, ByteArray.size_append]; omega
  have HX := Lib.hid (fun (wr : World) (h : Rel (w3.alloc (.cells #[.string s, .string (U ++ M ++ Q1), .string (U ++ M ++ Q2), .string U] 9)).drew wr) (j : Nat) (hj : j < 4) => four_cell (show Bk wr w3.heap.size 9 (fourS s (U ++ M ++ Q1) (U ++ M ++ Q2) U) from hB.rel h) 200000000000000 (by omega) za zb (by omega) j hj)
  have HR4 := Lib.hid hR4
  obtain ⟨W4, hW4⟩ : ∃ W, (w3.alloc (.cells #[.string s, .string (U ++ M ++ Q1), .string (U ++ M ++ Q2), .string U] 9)).drew = W := ⟨_, rfl⟩
  rw [hW4] at HX HR4 ⊢
  have HRs := Lib.hid (HR4.out.self)
  clear hB hR4 hW4 za zb hU hQ1 hQ2 hm1 hm2 hp1 hp2 hw1 hw2 s1 s2 s3
  go_loopw [65] (fun iv wr => ∃ j : Nat, j ≤ 4 ∧ iv = .int .i64 (j : Int) ∧ Rel W4 wr) (fun iv _ => 4 - (RowKit.intOf iv).toNat)
  case atStart => exact ⟨0, by omega, rfl, HRs.out⟩
  case round =>
    obtain ⟨j, hj, rfl, hRw⟩ := hrel
    have HRw := Lib.hid hRw
    by_cases hlt : j < 4
    · obtain ⟨X, hcell, zX⟩ := HX.out wr hRw j hlt
      have zX2 : X.size ≤ 9223372036854775807 := by omega
      obtain ⟨sp1, sp2⟩ := parse_spec X.data.toList
      have el : X.data.toList.length = X.size := by simp
      rw [el] at sp2
      have hj4 : (j : Int) < 4 := by omega
      cases hpx : parseS X.data.toList with
      | error E0 =>
        obtain ⟨cd, pl⟩ := E0
        obtain ⟨c1, c2, c3⟩ := sp2 cd pl hpx
        have PX := Lib.hid hpx
        have hc1 : (cd != 0) = true := by rcases c1 with rfl | rfl | rfl | rfl <;> rfl
        have hc2 : decide (pl < 0) = false := by simp; omega
        have hc3 : decide ((X.size : Int) < pl) = false := by simp; omega
        clear sp1 sp2 el hpx c1 c2 c3
        go_wp2_with (go_at_call 12; (with_reducible refine (pparse_no HP.out X cd pl PX zX2 _ _ HRw.out.self).mono ?_); rintro e w5 ⟨rfl, h5⟩; have A5 := Lib.hid ((HRw.out.trans h5).trans (h5.self.alloc (.cells #[.int .i64 0, .int .i64 0, .string ⟨#[]⟩, .slice none 0 0] 26))))
        all_goals
          go_roundw
          case rel => exact ⟨j + 1, by omega, by go_num, A5.out⟩
          case measure => simp [RowKit.intOf]; omega
      | ok x =>
        obtain ⟨hf, hcd⟩ := sp1 x hpx
        have hz := parse_size hpx
        have zx : size x ≤ 100000 := by omega
        have hdp : deep x ≤ 32 := fine_deep x 32 hf
        obtain ⟨dn, hdn⟩ : ∃ n : Nat, deep x = n := ⟨_, rfl⟩
        have HD : Hid ((deep x : Int) = (dn : Int)) := Lib.hid (by rw [hdn])
        have hd32 : decide ((32 : Int) < (dn : Int)) = false := by simp; omega
        have PX := Lib.hid hpx
        obtain ⟨bx, hbx⟩ : ∃ b, rightX x = b := ⟨_, rfl⟩
        have HBx := Lib.hid hbx
        have px := pr_of hbx
        obtain ⟨T2, hT2⟩ : ∃ T, B (prT x) = T := ⟨_, rfl⟩
        have P2 := Lib.hid (And.intro hT2 px.2)
        cases bx with
        | false =>
          clear sp1 sp2 el hpx hf hcd hz hdp hdn hbx px hT2
          go_wp2_with (first
            | (go_at_call 12; (with_reducible refine (pparse_yes HP.out X x PX zX2 _ _ HRw.out.self).mono ?_); rintro e w5 ⟨va, rfl, ea, h5⟩; have AA := h5.self.alloc (.cells #[.int .i64 va.1, .int .i64 va.2.1, .string (B va.2.2.1), .slice va.2.2.2.1 va.2.2.2.2.1 va.2.2.2.2.2] 26); have BA := Lib.hid (Bk.new w5 26 #[.int .i64 va.1, .int .i64 va.2.1, .string (B va.2.2.1), .slice va.2.2.2.1 va.2.2.2.2.1 va.2.2.2.2.2]); have EA := Lib.hid (ea.rel AA); have R5 := Lib.hid ((HRw.out.trans h5).trans AA); obtain ⟨⟨c0, c1, c2, c3⟩, _⟩ := BA.out.four; clear ea)
            | (go_at_call 10; (with_reducible refine (print_as H.out x T2 _ P2 _ va _ _ R5.out.self EA.out zx).mono ?_); rintro e w6 ⟨rfl, h6⟩; obtain ⟨⟨c0, c1, c2, c3⟩, _⟩ := (BA.out.rel h6).four)
            | (go_at_call 17; (with_reducible refine (deep_as8 H.out x (dn : Int) HD _ va _ _ h6.self (EA.out.rel h6) zx).mono ?_); rintro e w7 ⟨rfl, h7⟩; have R7 := h6.trans h7; obtain ⟨⟨c0, c1, c2, c3⟩, _⟩ := (BA.out.rel R7).four)
            | (go_at_call 11; (with_reducible refine (right_as H.out x _ HBx _ va _ _ h7.self (EA.out.rel R7) zx).mono ?_); rintro e w8 ⟨rfl, h8⟩))
          all_goals
            go_roundw
            case rel => exact ⟨j + 1, by omega, by go_num, (R5.out.trans R7).trans h8⟩
            case measure => simp [RowKit.intOf]; omega
        | true =>
          have hl := right_len hbx
          have hTx : B (text x) = T2 := by have := px.1; simp only [if_true] at this; rw [← hT2, this]
          have PT : Hid (parseS T2.data.toList = .ok x) := Lib.hid (by rw [← hTx, B_list]; exact parse_text hbx)
          have zT2 : T2.size ≤ 9223372036854775807 := by rw [← hTx, B_size]; omega
          clear sp1 sp2 el hpx hf hcd hz hdp hdn hbx px hT2 hl hTx
          go_wp2_with (first
            | (go_at_call 12; (with_reducible refine (pparse_yes HP.out X x PX zX2 _ _ HRw.out.self).mono ?_); rintro e w5 ⟨va, rfl, ea, h5⟩; have AA := h5.self.alloc (.cells #[.int .i64 va.1, .int .i64 va.2.1, .string (B va.2.2.1), .slice va.2.2.2.1 va.2.2.2.2.1 va.2.2.2.2.2] 26); have BA := Lib.hid (Bk.new w5 26 #[.int .i64 va.1, .int .i64 va.2.1, .string (B va.2.2.1), .slice va.2.2.2.1 va.2.2.2.2.1 va.2.2.2.2.2]); have EA := Lib.hid (ea.rel AA); have R5 := Lib.hid ((HRw.out.trans h5).trans AA); obtain ⟨⟨c0, c1, c2, c3⟩, _⟩ := BA.out.four; clear ea)
            | (go_at_call 10; (with_reducible refine (print_as H.out x T2 _ P2 _ va _ _ R5.out.self EA.out zx).mono ?_); rintro e w6 ⟨rfl, h6⟩; obtain ⟨⟨c0, c1, c2, c3⟩, _⟩ := (BA.out.rel h6).four)
            | (go_at_call 17; (with_reducible refine (deep_as8 H.out x (dn : Int) HD _ va _ _ h6.self (EA.out.rel h6) zx).mono ?_); rintro e w7 ⟨rfl, h7⟩; have R7 := h6.trans h7; obtain ⟨⟨c0, c1, c2, c3⟩, _⟩ := (BA.out.rel R7).four)
            | (go_at_call 11; (with_reducible refine (right_as H.out x _ HBx _ va _ _ h7.self (EA.out.rel R7) zx).mono ?_); rintro e w8 ⟨rfl, h8⟩; have R8 := R7.trans h8)
            | (go_at_call 12; (with_reducible refine (pparse_yes HP.out T2 x PT zT2 _ _ h8.self).mono ?_); rintro e w9 ⟨vb, rfl, eb, h9⟩; have AB := h9.self.alloc (.cells #[.int .i64 vb.1, .int .i64 vb.2.1, .string (B vb.2.2.1), .slice vb.2.2.2.1 vb.2.2.2.2.1 vb.2.2.2.2.2] 26); have R9 := (R8.trans h9).trans AB; have EB := Lib.hid (eb.rel AB); obtain ⟨⟨d0, d1, d2, d3⟩, _⟩ := (Bk.new w9 26 #[.int .i64 vb.1, .int .i64 vb.2.1, .string (B vb.2.2.1), .slice vb.2.2.2.1 vb.2.2.2.2.1 vb.2.2.2.2.2]).four; obtain ⟨⟨c0, c1, c2, c3⟩, _⟩ := (BA.out.rel R9).four)
            | (go_at_call 14; (with_reducible refine (same_yes H.out x _ _ va vb _ _ AB.self (EA.out.rel R9) EB.out zx).mono ?_); rintro e w10 ⟨rfl, h10⟩))
          all_goals
            go_roundw
            case rel => exact ⟨j + 1, by omega, by go_num, (R5.out.trans R9).trans h10⟩
            case measure => simp [RowKit.intOf]; omega
    · obtain rfl : j = 4 := by omega
      go_wp2_with (fail)
      go_ret
      exact ⟨rfl, (R3.out.trans HR4.out).trans HRw.out⟩
end Go.Proofs.YtoajbbcjmalngaaGreatDoor
