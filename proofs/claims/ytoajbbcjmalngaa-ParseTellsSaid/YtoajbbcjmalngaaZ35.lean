/- ParseTells, over what the program is asked and what the document's own answer tells. -/
import Derived.Test.YtoajbbcjmalngaaZ30
import Derived.Test.YtoajbbcjmalngaaZ34
namespace Go.Proofs.Ytoajbbcjmalngaa
open Go.RowKit Go.Lib
set_option linter.unusedVariables false
set_option linter.unusedSimpArgs false

theorem right_len {x : Ex} (h : rightX x = true) : (text x).length ≤ 2000 := by
  simp only [rightX, Bool.and_eq_true, decide_eq_true_eq] at h
  exact h.2
theorem rsame_yes (x : Ex) (S S' : Nat → Prop) (e e' : El) (w0 w : World) (hr : Rel w0 w) (h : ExAt S w e x) (h' : ExAt S' w e' x) (hz : size x ≤ 1000000) :
    Calls Try.prog 12 #[EV e, EV e'] w fun r w' => r = .returned (.bool true) ∧ Rel w0 w' := rsame_any x x S S' e e' true w0 w hr h h' hz hz (Lib.hid ⟨fun _ => rfl, fun _ => rfl⟩)
theorem rsame_zero (w0 w : World) (hr : Rel w0 w) : Calls Try.prog 12 #[.agg #[.int .i64 0, .int .i64 0, .string ⟨#[]⟩, .slice none 0 0], .agg #[.int .i64 0, .int .i64 0, .string ⟨#[]⟩, .slice none 0 0]] w fun r w' => r = .returned (.bool true) ∧ Rel w0 w' := by
  have hz : ExAt (fun _ => True) w (0, 0, [], none, 0, 0) (.mk 0 0 [] []) := ExAt.leaf _ _ 0 0 [] none 0 ⟨by decide, by decide⟩ ⟨by decide, by decide⟩ (Nat.zero_le _)
  exact rsame_yes (.mk 0 0 [] []) _ _ (0, 0, [], none, 0, 0) (0, 0, [], none, 0, 0) w0 w hr hz hz (by rw [size_mk, sizes_nil]; omega)
theorem strG_at {f : FuncId} {args : Array Value} {w : World} {R : World → Prop} {x : ByteArray} (y : ByteArray) (c : Calls Try.prog f args w fun e w' => e = .returned (.string x) ∧ R w') (h : Hid (x = y)) : Calls Try.prog f args w fun e w' => e = .returned (.string y) ∧ R w' := by
  rw [← h.out]; exact c
theorem addG_next (a : Addr) (n : Nat) : a.add (n + 1) = ⟨(a.add n).block, (a.add n).off + 1, none⟩ := by
  unfold Addr.add
  by_cases h : n = 0
  · subst h; simp
  · simp [h]; omega
theorem pairs_at {w : World} {A : Option Addr} {n : Nat} {zs : List (Int × Int)} (h : PairsIn w A n zs) {w' : World} (hr : Rel w w') (j : Nat) (hj : j < zs.length) :
    ∃ (a : Addr) (x y : Int), A = some a ∧ w'.cell? (a.add (j * 2)) = some (.int .i64 x) ∧ w'.cell? ⟨(a.add (j * 2)).block, (a.add (j * 2)).off + 1, none⟩ = some (.int .i64 y) ∧ zs[j] = (x, y) ∧
      (-9223372036854775808 ≤ x ∧ x ≤ 9223372036854775807) ∧ (-9223372036854775808 ≤ y ∧ y ≤ 9223372036854775807) ∧ (a.add (j * 2)).block < w'.heap.size := by
  obtain ⟨_, _, hb, hp⟩ := h
  obtain ⟨a, e, hl, c0, c1⟩ := (hp.rel hr) j hj
  have := hb zs[j] (List.getElem_mem hj)
  rw [addG_next] at c1
  exact ⟨a, zs[j].1, zs[j].2, e, c0, c1, rfl, this.1, this.2, by rw [block_add]; exact hl⟩
theorem G_32 (l p : List UInt8) : B l ++ B p ++ ⟨#[32]⟩ = B (l ++ (p ++ [32])) := by
  rw [show (⟨#[32]⟩ : ByteArray) = B [32] from rfl, B_append, B_append, List.append_assoc]
theorem six_cell {w : World} {q : Nat} {a b c d e f : ByteArray} (h : Bk w q 9 #[.string a, .string b, .string c, .string d, .string e, .string f]) (m : Nat) (ha : a.size ≤ m) (hb : b.size ≤ m) (hc : c.size ≤ m) (hd : d.size ≤ m) (he : e.size ≤ m) (hf : f.size ≤ m) (j : Nat) (hj : j < 6) : ∃ X : ByteArray, w.cell? ⟨q, j, none⟩ = some (.string X) ∧ X.size ≤ m := by
  have hcell := h.cell j
  have : j = 0 ∨ j = 1 ∨ j = 2 ∨ j = 3 ∨ j = 4 ∨ j = 5 := by omega
  rcases this with rfl | rfl | rfl | rfl | rfl | rfl
  · exact ⟨a, hcell, ha⟩
  · exact ⟨b, hcell, hb⟩
  · exact ⟨c, hcell, hc⟩
  · exact ⟨d, hcell, hd⟩
  · exact ⟨e, hcell, he⟩
  · exact ⟨f, hcell, hf⟩
set_option maxRecDepth 100000 in
set_option maxHeartbeats 8000000 in
theorem ParseTells_at (HP : ParseOk) (s : ByteArray) (hs : s.size ≤ 140737488351232) (A : Option Addr) (c : Nat) (L : List Int) (at_ : Int) (k0 : -9223372036854775808 ≤ at_) (k1 : at_ ≤ 9223372036854775807) (M : ByteArray) (hM : M.size ≤ 140737488351232) (A' : Option Addr) (c' : Nat) (zs : List (Int × Int)) (w : World) (hr : Rel w w) (hi : IntsIn w A c L) (hz : PairsIn w A' zs.length zs) :
    Calls Try.prog 3 #[.string s, .slice A L.length c, .int .i64 at_, .string M, .slice A' zs.length c'] w fun e w' => e = .returned (.bool true) ∧ Rel w w' := by
  have HP := Lib.hid HP
  have HR := Lib.hid hr
  have HI := Lib.hid hi
  have HZ := Lib.hid hz
  have hzl := hz.2.1
  obtain ⟨y, hy⟩ : ∃ x, strat L = x := ⟨_, rfl⟩
  have HSx := Lib.hid (fun (w0 w1 : World) (hr : Rel w0 w1) (h : IntsIn w1 A c L) => strat_any A c L w0 w1 hr h)
  have zy : size y ≤ 1000000 := by have := strat_size L; rw [hy] at this; omega
  rw [hy] at HSx
  clear hy hi hz
  obtain ⟨T, hT⟩ : ∃ T, B (prT y) = T := ⟨_, rfl⟩
  obtain ⟨E, hE⟩ : ∃ E, prE y = E := ⟨_, rfl⟩
  have zT : T.size ≤ 2000 := by
    rw [← hT, B_size]
    unfold prT
    split
    · rename_i h; exact right_len h
    · simp
  have P1 := Lib.hid (And.intro hT hE)
  clear hT hE
  obtain ⟨pb0, pb1⟩ := pk_bd at_ ((T.size : Int) + 1) (by omega)
  obtain ⟨k, hk⟩ : ∃ k : Nat, pk at_ ((T.size : Int) + 1) = (k : Int) := ⟨(pk at_ ((T.size : Int) + 1)).toNat, by omega⟩
  have hkT : k ≤ T.size := by omega
  have HK := Lib.hid hk
  obtain ⟨U, hU⟩ : ∃ U, T.extract 0 k = U := ⟨_, rfl⟩
  obtain ⟨Q1, hQ1⟩ : ∃ Q, T.extract (min ((k : Int) + (M.size : Int)) (T.size : Int)).toNat T.size = Q := ⟨_, rfl⟩
  obtain ⟨Q2, hQ2⟩ : ∃ Q, T.extract k T.size = Q := ⟨_, rfl⟩
  have zU : U.size ≤ 2000 := by rw [← hU, ByteArray.size_extract]; omega
  have zQ1 : Q1.size ≤ 2000 := by rw [← hQ1, ByteArray.size_extract]; omega
  have zQ2 : Q2.size ≤ 2000 := by rw [← hQ2, ByteArray.size_extract]; omega
  have s1 : ¬ (9223372036854775807 < U.size + M.size) := by omega
  have s2 : ¬ (9223372036854775807 < U.size + M.size + Q1.size) := by omega
  have s3 : ¬ (9223372036854775807 < U.size + M.size + Q2.size) := by omega
  have hw1 : IntKind.i64.wrap ((T.size : Int) + 1) = (T.size : Int) + 1 := IntWalk.i64_in _ (by omega)
  have hw2 : IntKind.i64.wrap ((k : Int) + (M.size : Int)) = (k : Int) + (M.size : Int) := IntWalk.i64_in _ (by omega)
  have hp1 : (0 : Int) < (T.size : Int) + 1 := by omega
  have hp2 : (T.size : Int) + 1 ≤ 9223372036854775807 := by omega
  have hm1 : 0 ≤ min ((k : Int) + (M.size : Int)) (T.size : Int) := by omega
  have hm2 : min ((k : Int) + (M.size : Int)) (T.size : Int) ≤ (T.size : Int) := by omega
  clear pb0 pb1 hk
  go_enter Try.func3, Try.ntmps3
  go_upto_block 0 with (first
    | (go_at_call 5; (with_reducible refine (awake8_any HP.out _ _ HR.out).mono ?_); rintro e w1 ⟨rfl, h1⟩)
    | (go_at_call 7; (with_reducible refine (HSx.out _ _ h1.self (HI.out.rel h1)).mono ?_); rintro e w2 ⟨vx, rfl, ex, h2⟩)
    | (go_at_call 6; (with_reducible refine (rprint_as y T E P1 _ vx _ _ h2.self ex zy).mono ?_); rintro e w3 ⟨rfl, h3⟩; have R3 := Lib.hid ((h1.trans h2).trans h3))
    | (go_at_call 8; (with_reducible refine (pk8_as at_ ((T.size : Int) + 1) _ HK k0 k1 hp1 hp2 _).mono ?_); rintro e w5 ⟨rfl, rfl⟩))
  go_cut [15] (fun t wx => ∃ L : List UInt8, t = .string (B L) ∧ L.length ≤ 205 ∧ Rel w wx)
  case first =>
    go_wp2_with (fail)
    go_loopw [15, 16] (fun t i wr => ∃ (j : Nat) (L : List UInt8), j ≤ zs.length ∧ j ≤ 20 ∧ i = .int .i64 j ∧ t = .string (B L) ∧ L.length ≤ 5 + 10 * j ∧ Rel w wr) (fun _ i _ => 20 - (RowKit.intOf i).toNat)
    case atStart => exact ⟨0, [101, 108, 115, 101, 40], by omega, by omega, rfl, rfl, by simp, R3.out⟩
    case round =>
      obtain ⟨j, L, hj1, hj2, rfl, rfl, hL, hR2⟩ := hrel
      clear s1 s2 s3 hw1 hw2 hm1 hm2 hU hQ1 hQ2 hp1 hp2 zU zQ1 zQ2 hkT zT zy hs hM
      by_cases hlt : j < zs.length
      · by_cases h20 : j < 20
        · obtain ⟨a, x, yy, rfl, c0, c1, hxy, ⟨x0, x1⟩, ⟨y0, y1⟩, hab⟩ := pairs_at HZ.out hR2 j hlt
          have HXY := Lib.hid hxy
          have hP := pc_len x yy
          obtain ⟨P, hPP⟩ : ∃ P, pcL x yy = P := ⟨_, rfl⟩
          have HPc := Lib.hid (show B (pcL x yy) = B P by rw [hPP])
          rw [hPP] at hP
          have zL : (B L).size ≤ 2000 := by rw [B_size]; omega
          have zP : (B P).size ≤ 9 := by rw [B_size]; exact hP
          have q1 : ¬ 9223372036854775807 < (B L).size + (B P).size := by omega
          have q2 : ¬ 9223372036854775807 < (B L).size + (B P).size + 1 := by omega
          clear hxy hPP
          have HB := Lib.hid (G_32 L P)
          go_wp2_with (fail)
          go_region_law (rw [if_pos (by rfl)]; go_simp; go_at_call 9; (with_reducible refine (strG_at _ (piece8_any x yy x0 x1 y0 y1 _ _ hR2.self.drew.self) HPc).mono ?_); rintro e w4 ⟨rfl, h4⟩; have d0 := (h4.2.cell (p := a.add (j * 2)) hab).trans c0; have d1 := (h4.2.cell (p := ⟨(a.add (j * 2)).block, (a.add (j * 2)).off + 1, none⟩) hab).trans c1)
          all_goals
            go_wp2_with (fail)
            go_roundw
            case rel => exact ⟨j + 1, L ++ (P ++ [32]), by omega, by omega, by go_num, by rw [HB.out], by simp; omega, by first | exact hR2.drew.trans h4 | exact (hR2.trans h4)⟩
            case measure => simp [RowKit.intOf]; omega
        · obtain rfl : j = 20 := by omega
          go_wp2_with (fail)
          go_meet
          exact ⟨L, rfl, by omega, hR2⟩
      · obtain rfl : j = zs.length := by omega
        go_wp2_with (fail)
        all_goals
          go_meet
          exact ⟨L, rfl, by omega, hR2⟩
  obtain ⟨L5, rfl, hL5, hRL⟩ := hcut
  have zL : (B L5).size ≤ 200 + 5 := by rw [B_size]; omega
  go_wp2_with (fail)
  go_region_law (fail)
  go_wp2_with (fail)
  simp only [Act.put, List.getElem_toArray, List.getElem_cons_succ, List.getElem_cons_zero, List.setIfInBounds_toArray, List.set_cons_zero, List.set_cons_succ]
  have hB := (Bk.new wc 9 #[.string s, .string T, .string (U ++ M ++ Q1), .string (U ++ M ++ Q2), .string U, .string (B L5)]).drew
  have hR4 := (hRL.self.alloc (.cells #[.string s, .string T, .string (U ++ M ++ Q1), .string (U ++ M ++ Q2), .string U, .string (B L5)] 9)).drew
  have za : (U ++ M ++ Q1).size ≤ 200000000000000 := by rw [ByteArray.size_append, ByteArray.size_append]; omega
  have zb : (U ++ M ++ Q2).size ≤ 200000000000000 := by rw [ByteArray.size_append, ByteArray.size_append]; omega
  have HX := Lib.hid (fun (wr : World) (h : Rel (wc.alloc (.cells #[.string s, .string T, .string (U ++ M ++ Q1), .string (U ++ M ++ Q2), .string U, .string (B L5)] 9)).drew wr) (j : Nat) (hj : j < 6) => six_cell (show Bk wr wc.heap.size 9 #[.string s, .string T, .string (U ++ M ++ Q1), .string (U ++ M ++ Q2), .string U, .string (B L5)] from hB.rel h) 200000000000000 (by omega) (by omega) za zb (by omega) (by omega) j hj)
  have HR4 := Lib.hid hR4
  have HRL := Lib.hid hRL
  obtain ⟨W4, hW4⟩ : ∃ W, (wc.alloc (.cells #[.string s, .string T, .string (U ++ M ++ Q1), .string (U ++ M ++ Q2), .string U, .string (B L5)] 9)).drew = W := ⟨_, rfl⟩
  rw [hW4] at HX HR4 ⊢
  have HRs := Lib.hid (HR4.out.self)
  clear hB hR4 hW4 za zb hU hQ1 hQ2 hm1 hm2 hp1 hp2 hw1 hw2 s1 s2 s3 hRL
  go_loopw [93] (fun iv wr => ∃ j : Nat, j ≤ 6 ∧ iv = .int .i64 (j : Int) ∧ Rel W4 wr) (fun iv _ => 6 - (RowKit.intOf iv).toNat)
  case atStart => exact ⟨0, by omega, rfl, HRs.out⟩
  case round =>
    obtain ⟨j, hj, rfl, hRw⟩ := hrel
    have HRw := Lib.hid hRw
    by_cases hlt : j < 6
    · obtain ⟨X, hcell, zX⟩ := HX.out wr hRw j hlt
      have zX2 : X.size ≤ 9223372036854775807 := by omega
      have hj6 : (j : Int) < 6 := by omega
      cases hpx : parseS X.data.toList with
      | error E0 =>
        obtain ⟨cd, pl⟩ := E0
        have PX := Lib.hid hpx
        have hcc : (cd != cd) = false := by simp
        have hpp : (pl != pl) = false := by simp
        clear hpx
        go_wp2_with (first
          | (go_at_call 10; (with_reducible refine (pparse_no HP.out X cd pl PX zX2 _ _ HRw.out.self).mono ?_); rintro e w5 ⟨rfl, h5⟩; have A5 := h5.self.alloc (.cells #[.int .i64 0, .int .i64 0, .string ⟨#[]⟩, .slice none 0 0] 30); have R5 := Lib.hid ((HRw.out.trans h5).trans A5); have BA := Lib.hid (Bk.new w5 30 #[.int .i64 0, .int .i64 0, .string ⟨#[]⟩, .slice none 0 0]))
          | (go_at_call 11; (with_reducible refine (rparse_bad X cd pl PX zX2 _ _ A5.self).mono ?_); rintro e w6 ⟨rfl, h6⟩; have A6 := h6.self.alloc (.cells #[.int .i64 0, .int .i64 0, .string ⟨#[]⟩, .slice none 0 0] 30); have R6 := Lib.hid ((R5.out.trans h6).trans A6); obtain ⟨⟨c0, c1, c2, c3⟩, _⟩ := (BA.out.rel (h6.trans A6)).four; obtain ⟨⟨d0, d1, d2, d3⟩, _⟩ := (Bk.new w6 30 #[.int .i64 0, .int .i64 0, .string ⟨#[]⟩, .slice none 0 0]).four)
          | (go_at_call 12; (with_reducible refine (rsame_zero _ _ A6.self).mono ?_); rintro e w7 ⟨rfl, h7⟩))
        all_goals
          go_roundw
          case rel => exact ⟨j + 1, by omega, by go_num, R6.out.trans h7⟩
          case measure => simp [RowKit.intOf]; omega
      | ok x =>
        have hz := parse_size hpx
        have zx : size x ≤ 1000000 := by omega
        have PX := Lib.hid hpx
        clear hpx hz
        go_wp2_with (first
          | (go_at_call 10; (with_reducible refine (pparse_yes HP.out X x PX zX2 _ _ HRw.out.self).mono ?_); rintro e w5 ⟨va, rfl, ea, h5⟩; have A5 := h5.self.alloc (.cells #[.int .i64 va.1, .int .i64 va.2.1, .string (B va.2.2.1), .slice va.2.2.2.1 va.2.2.2.2.1 va.2.2.2.2.2] 30); have R5 := Lib.hid ((HRw.out.trans h5).trans A5); have BA := Lib.hid (Bk.new w5 30 #[.int .i64 va.1, .int .i64 va.2.1, .string (B va.2.2.1), .slice va.2.2.2.1 va.2.2.2.2.1 va.2.2.2.2.2]); have EA := Lib.hid (ea.rel A5); clear ea)
          | (go_at_call 11; (with_reducible refine (rparse_ok X x PX zX2 _ _ A5.self).mono ?_); rintro e w6 ⟨vb, rfl, eb, h6⟩; have A6 := h6.self.alloc (.cells #[.int .i64 vb.1, .int .i64 vb.2.1, .string (B vb.2.2.1), .slice vb.2.2.2.1 vb.2.2.2.2.1 vb.2.2.2.2.2] 30); have R6 := Lib.hid ((R5.out.trans h6).trans A6); have EB := Lib.hid (eb.rel A6); have EC := Lib.hid (EA.out.rel (h6.trans A6)); obtain ⟨⟨c0, c1, c2, c3⟩, _⟩ := (BA.out.rel (h6.trans A6)).four; obtain ⟨⟨d0, d1, d2, d3⟩, _⟩ := (Bk.new w6 30 #[.int .i64 vb.1, .int .i64 vb.2.1, .string (B vb.2.2.1), .slice vb.2.2.2.1 vb.2.2.2.2.1 vb.2.2.2.2.2]).four; clear eb)
          | (go_at_call 12; (with_reducible refine (rsame_yes x _ _ va vb _ _ A6.self EC.out EB.out zx).mono ?_); rintro e w7 ⟨rfl, h7⟩))
        all_goals
          go_roundw
          case rel => exact ⟨j + 1, by omega, by go_num, R6.out.trans h7⟩
          case measure => simp [RowKit.intOf]; omega
    · obtain rfl : j = 6 := by omega
      go_wp2_with (fail)
      go_ret
      exact ⟨rfl, (HRL.out.trans HR4.out).trans HRw.out⟩
end Go.Proofs.Ytoajbbcjmalngaa
