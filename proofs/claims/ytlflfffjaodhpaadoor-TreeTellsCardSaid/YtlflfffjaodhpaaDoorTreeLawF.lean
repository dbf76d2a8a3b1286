/- TreeTells, over what the program is asked. -/
import Derived.Test.YtlflfffjaodhpaaDoorTreeLawC
import Derived.Test.YtlflfffjaodhpaaDoorTreeWild
namespace Go.Proofs.YtlflfffjaodhpaaDoor
open Go.RowKit Go.Lib
set_option linter.unusedVariables false
set_option linter.unusedSimpArgs false

theorem rprint_as (x : Ex) (T : ByteArray) (n : Int) (hT : Hid (B (prT x) = T ∧ prE x = n)) (S : Nat → Prop) (e : El) (w0 w : World) (hr : Rel w0 w) (h : ExAt S w e x) (hz : size x ≤ 1000000) :
    Calls Tryd.prog 13 #[EV e] w fun r w' => r = .returned (.tuple #[.string T, .int .i64 n]) ∧ Rel w0 w' := by rw [← hT.out.1, ← hT.out.2]; exact rprint_any x S e w0 w hr h hz
theorem rright_as (x : Ex) (b : Bool) (hb : Hid (rightX x = b)) (S : Nat → Prop) (e : El) (w0 w : World) (hr : Rel w0 w) (h : ExAt S w e x) (hz : size x ≤ 1000000) :
    Calls Tryd.prog 15 #[EV e] w fun r w' => r = .returned (.bool b) ∧ Rel w0 w' := by rw [← hb.out]; exact rright_any x S e w0 w hr h hz
theorem rsize_as (x : Ex) (n : Int) (hn : Hid ((size x : Int) = n)) (S : Nat → Prop) (e : El) (w0 w : World) (hr : Rel w0 w) (h : ExAt S w e x) (hz : size x ≤ 1000000) :
    Calls Tryd.prog 17 #[EV e] w fun r w' => r = .returned (.int .i64 n) ∧ Rel w0 w' := by rw [← hn.out]; exact rsize_any x S e w0 w hr h hz
theorem rdeep_as (x : Ex) (n : Int) (hn : Hid ((deep x : Int) = n)) (S : Nat → Prop) (e : El) (w0 w : World) (hr : Rel w0 w) (h : ExAt S w e x) (hz : size x ≤ 1000000) :
    Calls Tryd.prog 19 #[EV e] w fun r w' => r = .returned (.int .i64 n) ∧ Rel w0 w' := by rw [← hn.out]; exact rdeep_any x S e w0 w hr h hz
set_option maxRecDepth 100000 in
set_option maxHeartbeats 16000000 in
theorem TreeTells_at (H : TreeOk) (A : Option Addr) (c : Nat) (L : List Int) (A' : Option Addr) (c' : Nat) (L' : List Int) (what y : Int) (hw : i64 what) (hy : i64 y) (w : World) (hr : Rel w w) (hi : IntsIn w A c L) (hi' : IntsIn w A' c' L') :
    Calls Tryd.prog 3 #[.slice A L.length c, .slice A' L'.length c', .int .i64 what, .int .i64 y] w fun e w' => e = .returned (.bool true) ∧ Rel w w' := by
  have H := Lib.hid H
  have HR := Lib.hid hr
  have HI := Lib.hid hi
  have HI' := Lib.hid hi'
  have HStx := Lib.hid (fun (w0 w1 : World) (hr : Rel w0 w1) (h : IntsIn w1 A c L) => strat_any A c L w0 w1 hr h)
  have HSty := Lib.hid (fun (w0 w1 : World) (hr : Rel w0 w1) (h : IntsIn w1 A' c' L') => strat_any A' c' L' w0 w1 hr h)
  have HWx := Lib.hid (fun (w0 w1 : World) (hr : Rel w0 w1) (h : IntsIn w1 A c L) => wild_any A c L what y hw hy w0 w1 hr h)
  have HWy := Lib.hid (fun (w0 w1 : World) (hr : Rel w0 w1) (h : IntsIn w1 A' c' L') => wild_any A' c' L' y what hy hw w0 w1 hr h)
  have z0 := strat_size L
  have zy := strat_size L'
  have z1 := wild_size (strat L) z0 what y
  have z2 := wild_size (strat L') zy y what
  generalize wildX (strat L) what y = x1 at *
  generalize wildX (strat L') y what = x2 at *
  generalize strat L = x0 at *
  generalize strat L' = Y at *
  clear hi hi' hr hw hy
  go_enter Tryd.func3, Tryd.ntmps3
  go_wp2_with (first
    | (go_at_call 9; (with_reducible refine (awake7_any H.out _ _ HR.out).mono ?_); rintro e w1 ⟨rfl, h1⟩)
    | (go_at_call 10; (with_reducible refine (HSty.out _ _ h1.self (HI'.out.rel h1)).mono ?_); rintro e w2 ⟨vy, rfl, ey, h2⟩; have AY := h2.self.alloc (.cells #[.int .i64 vy.1, .int .i64 vy.2.1, .string (B vy.2.2.1), .slice vy.2.2.2.1 vy.2.2.2.2.1 vy.2.2.2.2.2] 26); have R2 := (h1.trans h2).trans AY; have BY := Bk.new w2 26 #[.int .i64 vy.1, .int .i64 vy.2.1, .string (B vy.2.2.1), .slice vy.2.2.2.1 vy.2.2.2.2.1 vy.2.2.2.2.2]; have EY := ey.rel AY)
    | (go_at_call 10; (with_reducible refine (HStx.out _ _ R2.self (HI.out.rel R2)).mono ?_); rintro e w3 ⟨v0, rfl, e0, h3⟩; have R3 := R2.trans h3)
    | (go_at_call 11; (with_reducible refine (HWx.out _ _ R3.self (HI.out.rel R3)).mono ?_); rintro e w4 ⟨v1, rfl, e1, h4⟩; have R4 := R3.trans h4)
    | (go_at_call 11; (with_reducible refine (HWy.out _ _ R4.self (HI'.out.rel R4)).mono ?_); rintro e w5 ⟨v2, rfl, e2, h5⟩; have R5 := R4.trans h5))
  have RR := h5.self.alloc (.cells #[.int .i64 v0.1, .int .i64 v0.2.1, .string (B v0.2.2.1), .slice v0.2.2.2.1 v0.2.2.2.2.1 v0.2.2.2.2.2, .int .i64 v1.1, .int .i64 v1.2.1, .string (B v1.2.2.1), .slice v1.2.2.2.1 v1.2.2.2.2.1 v1.2.2.2.2.2, .int .i64 v2.1, .int .i64 v2.2.1, .string (B v2.2.2.1), .slice v2.2.2.2.1 v2.2.2.2.2.1 v2.2.2.2.2.2] 26)
  have hbr := Bk.new w5 26 #[.int .i64 v0.1, .int .i64 v0.2.1, .string (B v0.2.2.1), .slice v0.2.2.2.1 v0.2.2.2.2.1 v0.2.2.2.2.2, .int .i64 v1.1, .int .i64 v1.2.1, .string (B v1.2.2.1), .slice v1.2.2.2.1 v1.2.2.2.2.1 v1.2.2.2.2.2, .int .i64 v2.1, .int .i64 v2.2.1, .string (B v2.2.2.1), .slice v2.2.2.2.1 v2.2.2.2.2.1 v2.2.2.2.2.2]
  have r5 := (h3.trans h4).trans h5
  have HRow : Hid (RowE (fun _ => True) (w5.alloc (.cells #[.int .i64 v0.1, .int .i64 v0.2.1, .string (B v0.2.2.1), .slice v0.2.2.2.1 v0.2.2.2.2.1 v0.2.2.2.2.2, .int .i64 v1.1, .int .i64 v1.2.1, .string (B v1.2.2.1), .slice v1.2.2.2.1 v1.2.2.2.2.1 v1.2.2.2.2.2, .int .i64 v2.1, .int .i64 v2.2.1, .string (B v2.2.2.1), .slice v2.2.2.2.1 v2.2.2.2.2.1 v2.2.2.2.2.2] 26)) (some ⟨w5.heap.size, 0, none⟩) [v0, v1, v2]) := Lib.hid (RowE.of_bk hbr trivial)
  have HE0 := Lib.hid ((((e0.rel h4).rel h5).rel RR).weak (S' := fun _ => True) (fun _ _ => trivial))
  have HE1 := Lib.hid ((e1.rel h5).rel RR)
  have HE2 := Lib.hid (e2.rel RR)
  have HBY0 := Lib.hid ((BY.rel r5).rel RR)
  have HEY0 := Lib.hid ((EY.rel r5).rel RR)
  have HR5 := Lib.hid (R5.trans RR)
  clear ey e0 e1 e2 h1 h2 h3 h4 h5 AY R2 BY EY R3 R4 R5 RR hbr r5
  obtain ⟨W, hW⟩ : ∃ W, w5.alloc (.cells #[.int .i64 v0.1, .int .i64 v0.2.1, .string (B v0.2.2.1), .slice v0.2.2.2.1 v0.2.2.2.2.1 v0.2.2.2.2.2, .int .i64 v1.1, .int .i64 v1.2.1, .string (B v1.2.2.1), .slice v1.2.2.2.1 v1.2.2.2.2.1 v1.2.2.2.2.2, .int .i64 v2.1, .int .i64 v2.2.1, .string (B v2.2.2.1), .slice v2.2.2.2.1 v2.2.2.2.2.1 v2.2.2.2.2.2] 26) = W := ⟨_, rfl⟩
  rw [hW] at HRow HE0 HE1 HE2 HBY0 HEY0 HR5 ⊢
  obtain ⟨A3, hA3⟩ : ∃ A3 : Option Addr, A3 = some ⟨w5.heap.size, 0, none⟩ := ⟨_, rfl⟩
  rw [← hA3] at HRow ⊢
  have hsub0 : ∀ i (h : i < [v0, v1, v2].length) (h' : i < [x0, x1, x2].length), ExAt (fun _ => True) W [v0, v1, v2][i] [x0, x1, x2][i] := fun i h h' => by
    match i, h, h' with
    | 0, _, _ => exact HE0.out
    | 1, _, _ => exact HE1.out
    | 2, _, _ => exact HE2.out
  have hzs : ∀ z ∈ [x0, x1, x2], size z ≤ 70000 := by
    intro z hz
    simp only [List.mem_cons, List.not_mem_nil, or_false] at hz
    rcases hz with rfl | rfl | rfl <;> omega
  obtain ⟨l, es, hl3, hl, hrow0, hsub1, hzs1⟩ : ∃ (l : List Ex) (es : List El), l.length = 3 ∧ es.length = l.length ∧ RowE (fun _ => True) W A3 es ∧ (∀ i (h : i < es.length) (h' : i < l.length), ExAt (fun _ => True) W es[i] l[i]) ∧ (∀ z ∈ l, size z ≤ 70000) := ⟨[x0, x1, x2], [v0, v1, v2], rfl, rfl, HRow.out, hsub0, hzs⟩
  clear HRow
  have HRow := Lib.hid hrow0
  have HSub := Lib.hid hsub1
  have HZS := Lib.hid hzs1
  have HL := Lib.hid hl
  have HL3 := Lib.hid hl3
  have zY : size Y ≤ 70000 := by omega
  clear hW hA3 hl hl3 hzs hzs1 hrow0 hsub0 hsub1 HE0 HE1 HE2 z0 zy z1 z2
  go_loopw [32] (fun i wr => ∃ (j : Nat), i = .int .i64 (j : Int) ∧ j ≤ 3 ∧ Rel W wr) (fun i _ => 3 - (RowKit.intOf i).toNat)
  case atStart => exact ⟨0, rfl, by omega, HR5.out.self⟩
  case round =>
    obtain ⟨j, rfl, hj, hRw⟩ := hrel
    have HRw := Lib.hid hRw
    by_cases hlt : j < 3
    · have hjl : j < l.length := by rw [HL3.out]; exact hlt
      have hj3 : (j : Int) < 3 := by omega
      obtain ⟨g, off, k, n, nm, A1, m, c1, hA, a0, a1, a2, a3, hx⟩ := ExAt.arg HRow.out HSub.out HL.out hRw j hjl
      have zx := HZS.out _ (List.getElem_mem (l := l) (n := j) hjl)
      obtain ⟨x, hxx⟩ : ∃ x, l[j] = x := ⟨_, rfl⟩
      rw [hxx] at hx zx
      subst hA
      have RV := (HR5.out.trans hRw).self.alloc (.cells #[.int .i64 k, .int .i64 n, .string (B nm), .slice A1 m c1] 26)
      have bx := Bk.new wr 26 #[.int .i64 k, .int .i64 n, .string (B nm), .slice A1 m c1]
      have EX := hx.rel RV
      obtain ⟨r, hr⟩ : ∃ r, rightX x = r := ⟨_, rfl⟩
      obtain ⟨e, he⟩ : ∃ e, prE x = e := ⟨_, rfl⟩
      obtain ⟨S, hS⟩ : ∃ S, B (prT x) = S := ⟨_, rfl⟩
      obtain ⟨b, hb⟩ : ∃ b : Bool, b = true ↔ x = Y := by
        by_cases h : x = Y
        · exact ⟨true, by simp [h]⟩
        · exact ⟨false, by simp [h]⟩
      have HPr := Lib.hid (And.intro hS he)
      have HRX := Lib.hid hr
      have HBB := Lib.hid hb
      have V0 : Hid (EV (k, n, nm, A1, m, c1) = .agg #[.int .i64 k, .int .i64 n, .string (B nm), .slice A1 m c1]) := Lib.hid rfl
      have HPT := Lib.hid (arg1 V0 (print_as H.out x S e HPr _ _ _ _ RV.self EX (by omega)))
      have HPR := Lib.hid (fun (w' : World) (h : Rel (wr.alloc (.cells #[.int .i64 k, .int .i64 n, .string (B nm), .slice A1 m c1] 26)) w') => arg1 V0 (rprint_as x S e HPr _ _ w' w' (((HR5.out.trans HRw.out).trans RV).trans h).self (EX.rel h) (by omega)))
      have HV1 := Lib.hid RV
      have HEX1 := Lib.hid EX
      have HBX1 := Lib.hid bx
      obtain ⟨⟨q0, q1, q2, q3⟩, _⟩ := bx.four
      clear hr he hS hb hx hxx RV EX bx
      go_upto_region 8 with (first
        | (go_at_call 12; (with_reducible refine HPT.out.mono ?_); rintro e6 w6 ⟨rfl, h6⟩; obtain ⟨⟨t0, t1, t2, t3⟩, _⟩ := (HBX1.out.rel h6).four)
        | (go_at_call 13; (with_reducible refine (HPR.out _ h6).mono ?_); rintro e7 w7 ⟨rfl, h7⟩))
      have HV := Lib.hid ((HR5.out.trans HRw.out).trans ((HV1.out.trans h6).trans h7))
      have HVr := Lib.hid ((HRw.out.trans HV1.out).trans (h6.trans h7))
      have HBX := Lib.hid ((HBX1.out.rel h6).rel h7)
      have HBY := Lib.hid (HBY0.out.rel ((HRw.out.trans HV1.out).trans (h6.trans h7)))
      have HEX := Lib.hid ((HEX1.out.rel h6).rel h7)
      have HEY := Lib.hid (HEY0.out.rel ((HRw.out.trans HV1.out).trans (h6.trans h7)))
      obtain ⟨V, hV⟩ : ∃ V, V = w7 := ⟨_, rfl⟩
      subst hV
      clear h6 h7 t0 t1 t2 t3 q0 q1 q2 q3 HPT HV1 HEX1 HBX1
      have V0 : Hid (EV (k, n, nm, A1, m, c1) = .agg #[.int .i64 k, .int .i64 n, .string (B nm), .slice A1 m c1]) := Lib.hid rfl
      have VY : Hid (EV vy = .agg #[.int .i64 vy.1, .int .i64 vy.2.1, .string (B vy.2.2.1), .slice vy.2.2.2.1 vy.2.2.2.2.1 vy.2.2.2.2.2]) := Lib.hid rfl
      obtain ⟨s, hs⟩ : ∃ s : Nat, size x = s := ⟨_, rfl⟩
      obtain ⟨d, hd⟩ : ∃ d : Nat, deep x = d := ⟨_, rfl⟩
      have HRT := Lib.hid (fun (w' : World) (h : Rel V w') => arg1 V0 (right_as H.out x r HRX _ _ w' w' (HV.out.trans h).self (HEX.out.rel h) (by omega)))
      have HRR := Lib.hid (fun (w' : World) (h : Rel V w') => arg1 V0 (rright_as x r HRX _ _ w' w' (HV.out.trans h).self (HEX.out.rel h) (by omega)))
      have HST := Lib.hid (fun (w' : World) (h : Rel V w') => arg1 V0 (size_as H.out x (s : Int) (Lib.hid (by rw [hs])) _ _ w' w' (HV.out.trans h).self (HEX.out.rel h) (by omega)))
      have HSR := Lib.hid (fun (w' : World) (h : Rel V w') => arg1 V0 (rsize_as x (s : Int) (Lib.hid (by rw [hs])) _ _ w' w' (HV.out.trans h).self (HEX.out.rel h) (by omega)))
      have HDT := Lib.hid (fun (w' : World) (h : Rel V w') => arg1 V0 (deep_as H.out x (d : Int) (Lib.hid (by rw [hd])) _ _ w' w' (HV.out.trans h).self (HEX.out.rel h) (by omega)))
      have HDR := Lib.hid (fun (w' : World) (h : Rel V w') => arg1 V0 (rdeep_as x (d : Int) (Lib.hid (by rw [hd])) _ _ w' w' (HV.out.trans h).self (HEX.out.rel h) (by omega)))
      have HMT := Lib.hid (fun (w' : World) (h : Rel V w') => arg2 V0 VY (same_as H.out x Y b HBB _ _ _ _ w' w' (HV.out.trans h).self (HEX.out.rel h) (HEY.out.rel h) (by omega) (by omega)))
      have HMR := Lib.hid (fun (w' : World) (h : Rel V w') => arg2 V0 VY (rsame_any x Y _ _ _ _ b w' w' (HV.out.trans h).self (HEX.out.rel h) (HEY.out.rel h) (by omega) (by omega) HBB))
      have HXX := Lib.hid (fun (w' : World) (h : Rel V w') => arg2 V0 V0 (same_yes H.out x _ _ _ _ w' w' (HV.out.trans h).self (HEX.out.rel h) (HEX.out.rel h) (by omega)))
      clear hs hd zx
      refine wp_region_held_drew (S := (fun w' => Rel V w')) (by kernel_rfl) HV.out.self.drew (fun hHeld => ?_)
      refine held_take (i := 0) (v := ?_) (some 46) rfl rfl (by kernel_rfl) (by kernel_rfl) (by kernel_rfl) (fun _ _ _ h => h) (Or.inl ⟨by rfl, ?_⟩) hHeld ?_
      rotate_left 1
      · intro w' (h : Rel V w'); obtain ⟨⟨x0, x1, x2, x3⟩, _⟩ := (HBX.out.rel h).four; obtain ⟨⟨y0, y1, y2, y3⟩, _⟩ := (HBY.out.rel h).four; go_simp; try with_reducible rfl
      try simp only [Act.put, List.setIfInBounds_toArray, List.set_cons_zero, List.set_cons_succ]
      refine held_take (i := 1) (v := ?_) (some 47) rfl rfl (by kernel_rfl) (by kernel_rfl) (by kernel_rfl) (fun _ _ _ h => h) (Or.inl ⟨by rfl, ?_⟩) hHeld ?_
      rotate_left 1
      · intro w' (h : Rel V w'); obtain ⟨⟨x0, x1, x2, x3⟩, _⟩ := (HBX.out.rel h).four; obtain ⟨⟨y0, y1, y2, y3⟩, _⟩ := (HBY.out.rel h).four; go_simp; try with_reducible rfl
      try simp only [Act.put, List.setIfInBounds_toArray, List.set_cons_zero, List.set_cons_succ]
      refine held_take (i := 2) (v := ?_) (some 48) rfl rfl (by kernel_rfl) (by kernel_rfl) (by kernel_rfl) (fun _ _ _ h => h) (Or.inl ⟨by rfl, ?_⟩) hHeld ?_
      rotate_left 1
      · intro w' (h : Rel V w'); obtain ⟨⟨x0, x1, x2, x3⟩, _⟩ := (HBX.out.rel h).four; obtain ⟨⟨y0, y1, y2, y3⟩, _⟩ := (HBY.out.rel h).four; go_simp; try with_reducible rfl
      try simp only [Act.put, List.setIfInBounds_toArray, List.set_cons_zero, List.set_cons_succ]
      refine held_take (i := 3) (v := ?_) (some 49) rfl rfl (by kernel_rfl) (by kernel_rfl) (by kernel_rfl) (fun _ _ _ h => h) (Or.inl ⟨by rfl, ?_⟩) hHeld ?_
      rotate_left 1
      · intro w' (h : Rel V w'); obtain ⟨⟨x0, x1, x2, x3⟩, _⟩ := (HBX.out.rel h).four; obtain ⟨⟨y0, y1, y2, y3⟩, _⟩ := (HBY.out.rel h).four; go_simp; try with_reducible rfl
      try simp only [Act.put, List.setIfInBounds_toArray, List.set_cons_zero, List.set_cons_succ]
      refine held_take (i := 4) (v := ?_) (some 50) rfl rfl (by kernel_rfl) (by kernel_rfl) (by kernel_rfl) (fun _ _ _ h => h) (Or.inl ⟨by rfl, ?_⟩) hHeld ?_
      rotate_left 1
      · intro w' (h : Rel V w'); obtain ⟨⟨x0, x1, x2, x3⟩, _⟩ := (HBX.out.rel h).four; obtain ⟨⟨y0, y1, y2, y3⟩, _⟩ := (HBY.out.rel h).four; go_simp; try with_reducible rfl
      try simp only [Act.put, List.setIfInBounds_toArray, List.set_cons_zero, List.set_cons_succ]
      refine held_take (i := 5) (v := ?_) (some 51) rfl rfl (by kernel_rfl) (by kernel_rfl) (by kernel_rfl) (fun _ _ _ h => h) (Or.inl ⟨by rfl, ?_⟩) hHeld ?_
      rotate_left 1
      · intro w' (h : Rel V w'); obtain ⟨⟨x0, x1, x2, x3⟩, _⟩ := (HBX.out.rel h).four; obtain ⟨⟨y0, y1, y2, y3⟩, _⟩ := (HBY.out.rel h).four; go_simp; try with_reducible rfl
      try simp only [Act.put, List.setIfInBounds_toArray, List.set_cons_zero, List.set_cons_succ]
      refine held_take (i := 6) (v := ?_) (some 52) rfl rfl (by kernel_rfl) (by kernel_rfl) (by kernel_rfl) (fun _ _ _ h => h) (Or.inl ⟨by rfl, ?_⟩) hHeld ?_
      rotate_left 1
      · intro w' (h : Rel V w'); obtain ⟨⟨x0, x1, x2, x3⟩, _⟩ := (HBX.out.rel h).four; obtain ⟨⟨y0, y1, y2, y3⟩, _⟩ := (HBY.out.rel h).four; go_simp; try with_reducible rfl
      try simp only [Act.put, List.setIfInBounds_toArray, List.set_cons_zero, List.set_cons_succ]
      refine held_take (i := 7) (v := ?_) (some 53) rfl rfl (by kernel_rfl) (by kernel_rfl) (by kernel_rfl) (fun _ _ _ h => h) (Or.inl ⟨by rfl, ?_⟩) hHeld ?_
      rotate_left 1
      · intro w' (h : Rel V w'); obtain ⟨⟨x0, x1, x2, x3⟩, _⟩ := (HBX.out.rel h).four; obtain ⟨⟨y0, y1, y2, y3⟩, _⟩ := (HBY.out.rel h).four; go_simp; try with_reducible rfl
      try simp only [Act.put, List.setIfInBounds_toArray, List.set_cons_zero, List.set_cons_succ]
      refine held_take (i := 8) (v := ?_) (some 54) rfl rfl (by kernel_rfl) (by kernel_rfl) (by kernel_rfl) (fun _ _ _ h => h) (Or.inl ⟨by rfl, ?_⟩) hHeld ?_
      rotate_left 1
      · intro w' (h : Rel V w'); obtain ⟨⟨x0, x1, x2, x3⟩, _⟩ := (HBX.out.rel h).four; obtain ⟨⟨y0, y1, y2, y3⟩, _⟩ := (HBY.out.rel h).four; go_simp; try with_reducible rfl
      try simp only [Act.put, List.setIfInBounds_toArray, List.set_cons_zero, List.set_cons_succ]
      refine held_take (i := 9) (v := ?_) (some 55) rfl rfl (by kernel_rfl) (by kernel_rfl) (by kernel_rfl) (fun _ _ _ h => h) (Or.inl ⟨by rfl, ?_⟩) hHeld ?_
      rotate_left 1
      · intro w' (h : Rel V w'); obtain ⟨⟨x0, x1, x2, x3⟩, _⟩ := (HBX.out.rel h).four; obtain ⟨⟨y0, y1, y2, y3⟩, _⟩ := (HBY.out.rel h).four; go_simp; try with_reducible rfl
      try simp only [Act.put, List.setIfInBounds_toArray, List.set_cons_zero, List.set_cons_succ]
      refine held_take (i := 11) (v := ?_) (some 57) rfl rfl (by kernel_rfl) (by kernel_rfl) (by kernel_rfl) (fun _ _ _ h => h) (Or.inl ⟨by rfl, ?_⟩) hHeld ?_
      rotate_left 1
      · intro w' (h : Rel V w'); obtain ⟨⟨x0, x1, x2, x3⟩, _⟩ := (HBX.out.rel h).four; obtain ⟨⟨y0, y1, y2, y3⟩, _⟩ := (HBY.out.rel h).four; go_simp; try with_reducible rfl
      try simp only [Act.put, List.setIfInBounds_toArray, List.set_cons_zero, List.set_cons_succ]
      refine held_one (j := 10) (by kernel_rfl) rfl (fun K hK => ?_)
      try simp only [List.getElem_toArray, List.getElem_cons_succ, List.getElem_cons_zero]
      rw [if_pos (by rfl)]
      go_simp
      go_at_call 14
      (with_reducible refine (HRT.out _ hHeld).mono ?_)
      rintro e w2 ⟨rfl, h2⟩
      refine hK.out _ _ (hHeld.trans h2) (fun hHeld => ?_)
      clear hK K
      try simp only [Act.put, List.setIfInBounds_toArray, List.set_cons_zero, List.set_cons_succ]
      refine held_one (j := 12) (by kernel_rfl) rfl (fun K hK => ?_)
      try simp only [List.getElem_toArray, List.getElem_cons_succ, List.getElem_cons_zero]
      rw [if_pos (by rfl)]
      go_simp
      go_at_call 15
      (with_reducible refine (HRR.out _ hHeld).mono ?_)
      rintro e w2 ⟨rfl, h2⟩
      refine hK.out _ _ (hHeld.trans h2) (fun hHeld => ?_)
      clear hK K
      try simp only [Act.put, List.setIfInBounds_toArray, List.set_cons_zero, List.set_cons_succ]
      refine held_take (i := 13) (v := ?_) (some 59) rfl rfl (by kernel_rfl) (by kernel_rfl) (by kernel_rfl) (fun _ _ _ h => h) (Or.inl ⟨by rfl, ?_⟩) hHeld ?_
      rotate_left 1
      · intro w' (h : Rel V w'); obtain ⟨⟨x0, x1, x2, x3⟩, _⟩ := (HBX.out.rel h).four; obtain ⟨⟨y0, y1, y2, y3⟩, _⟩ := (HBY.out.rel h).four; go_simp; try with_reducible rfl
      try simp only [Act.put, List.setIfInBounds_toArray, List.set_cons_zero, List.set_cons_succ]
      refine held_take (i := 14) (v := ?_) (some 60) rfl rfl (by kernel_rfl) (by kernel_rfl) (by kernel_rfl) (fun _ _ _ h => h) (Or.inl ⟨by rfl, ?_⟩) hHeld ?_
      rotate_left 1
      · intro w' (h : Rel V w'); obtain ⟨⟨x0, x1, x2, x3⟩, _⟩ := (HBX.out.rel h).four; obtain ⟨⟨y0, y1, y2, y3⟩, _⟩ := (HBY.out.rel h).four; go_simp; try with_reducible rfl
      try simp only [Act.put, List.setIfInBounds_toArray, List.set_cons_zero, List.set_cons_succ]
      refine held_take (i := 15) (v := ?_) (some 61) rfl rfl (by kernel_rfl) (by kernel_rfl) (by kernel_rfl) (fun _ _ _ h => h) (Or.inl ⟨by rfl, ?_⟩) hHeld ?_
      rotate_left 1
      · intro w' (h : Rel V w'); obtain ⟨⟨x0, x1, x2, x3⟩, _⟩ := (HBX.out.rel h).four; obtain ⟨⟨y0, y1, y2, y3⟩, _⟩ := (HBY.out.rel h).four; go_simp; try with_reducible rfl
      try simp only [Act.put, List.setIfInBounds_toArray, List.set_cons_zero, List.set_cons_succ]
      refine held_take (i := 16) (v := ?_) (some 62) rfl rfl (by kernel_rfl) (by kernel_rfl) (by kernel_rfl) (fun _ _ _ h => h) (Or.inl ⟨by rfl, ?_⟩) hHeld ?_
      rotate_left 1
      · intro w' (h : Rel V w'); obtain ⟨⟨x0, x1, x2, x3⟩, _⟩ := (HBX.out.rel h).four; obtain ⟨⟨y0, y1, y2, y3⟩, _⟩ := (HBY.out.rel h).four; go_simp; try with_reducible rfl
      try simp only [Act.put, List.setIfInBounds_toArray, List.set_cons_zero, List.set_cons_succ]
      refine held_take (i := 18) (v := ?_) (some 64) rfl rfl (by kernel_rfl) (by kernel_rfl) (by kernel_rfl) (fun _ _ _ h => h) (Or.inl ⟨by rfl, ?_⟩) hHeld ?_
      rotate_left 1
      · intro w' (h : Rel V w'); obtain ⟨⟨x0, x1, x2, x3⟩, _⟩ := (HBX.out.rel h).four; obtain ⟨⟨y0, y1, y2, y3⟩, _⟩ := (HBY.out.rel h).four; go_simp; try with_reducible rfl
      try simp only [Act.put, List.setIfInBounds_toArray, List.set_cons_zero, List.set_cons_succ]
      refine held_one (j := 17) (by kernel_rfl) rfl (fun K hK => ?_)
      try simp only [List.getElem_toArray, List.getElem_cons_succ, List.getElem_cons_zero]
      rw [if_pos (by rfl)]
      go_simp
      go_at_call 16
      (with_reducible refine (HST.out _ hHeld).mono ?_)
      rintro e w2 ⟨rfl, h2⟩
      refine hK.out _ _ (hHeld.trans h2) (fun hHeld => ?_)
      clear hK K
      try simp only [Act.put, List.setIfInBounds_toArray, List.set_cons_zero, List.set_cons_succ]
      refine held_one (j := 19) (by kernel_rfl) rfl (fun K hK => ?_)
      try simp only [List.getElem_toArray, List.getElem_cons_succ, List.getElem_cons_zero]
      rw [if_pos (by rfl)]
      go_simp
      go_at_call 17
      (with_reducible refine (HSR.out _ hHeld).mono ?_)
      rintro e w2 ⟨rfl, h2⟩
      refine hK.out _ _ (hHeld.trans h2) (fun hHeld => ?_)
      clear hK K
      try simp only [Act.put, List.setIfInBounds_toArray, List.set_cons_zero, List.set_cons_succ]
      refine held_take (i := 20) (v := ?_) (some 66) rfl rfl (by kernel_rfl) (by kernel_rfl) (by kernel_rfl) (fun _ _ _ h => h) (Or.inl ⟨by rfl, ?_⟩) hHeld ?_
      rotate_left 1
      · intro w' (h : Rel V w'); obtain ⟨⟨x0, x1, x2, x3⟩, _⟩ := (HBX.out.rel h).four; obtain ⟨⟨y0, y1, y2, y3⟩, _⟩ := (HBY.out.rel h).four; go_simp; try with_reducible rfl
      try simp only [Act.put, List.setIfInBounds_toArray, List.set_cons_zero, List.set_cons_succ]
      refine held_take (i := 21) (v := ?_) (some 67) rfl rfl (by kernel_rfl) (by kernel_rfl) (by kernel_rfl) (fun _ _ _ h => h) (Or.inl ⟨by rfl, ?_⟩) hHeld ?_
      rotate_left 1
      · intro w' (h : Rel V w'); obtain ⟨⟨x0, x1, x2, x3⟩, _⟩ := (HBX.out.rel h).four; obtain ⟨⟨y0, y1, y2, y3⟩, _⟩ := (HBY.out.rel h).four; go_simp; try with_reducible rfl
      try simp only [Act.put, List.setIfInBounds_toArray, List.set_cons_zero, List.set_cons_succ]
      refine held_take (i := 22) (v := ?_) (some 68) rfl rfl (by kernel_rfl) (by kernel_rfl) (by kernel_rfl) (fun _ _ _ h => h) (Or.inl ⟨by rfl, ?_⟩) hHeld ?_
      rotate_left 1
      · intro w' (h : Rel V w'); obtain ⟨⟨x0, x1, x2, x3⟩, _⟩ := (HBX.out.rel h).four; obtain ⟨⟨y0, y1, y2, y3⟩, _⟩ := (HBY.out.rel h).four; go_simp; try with_reducible rfl
      try simp only [Act.put, List.setIfInBounds_toArray, List.set_cons_zero, List.set_cons_succ]
      refine held_take (i := 23) (v := ?_) (some 69) rfl rfl (by kernel_rfl) (by kernel_rfl) (by kernel_rfl) (fun _ _ _ h => h) (Or.inl ⟨by rfl, ?_⟩) hHeld ?_
      rotate_left 1
      · intro w' (h : Rel V w'); obtain ⟨⟨x0, x1, x2, x3⟩, _⟩ := (HBX.out.rel h).four; obtain ⟨⟨y0, y1, y2, y3⟩, _⟩ := (HBY.out.rel h).four; go_simp; try with_reducible rfl
      try simp only [Act.put, List.setIfInBounds_toArray, List.set_cons_zero, List.set_cons_succ]
      refine held_take (i := 25) (v := ?_) (some 71) rfl rfl (by kernel_rfl) (by kernel_rfl) (by kernel_rfl) (fun _ _ _ h => h) (Or.inl ⟨by rfl, ?_⟩) hHeld ?_
      rotate_left 1
      · intro w' (h : Rel V w'); obtain ⟨⟨x0, x1, x2, x3⟩, _⟩ := (HBX.out.rel h).four; obtain ⟨⟨y0, y1, y2, y3⟩, _⟩ := (HBY.out.rel h).four; go_simp; try with_reducible rfl
      try simp only [Act.put, List.setIfInBounds_toArray, List.set_cons_zero, List.set_cons_succ]
      refine held_one (j := 24) (by kernel_rfl) rfl (fun K hK => ?_)
      try simp only [List.getElem_toArray, List.getElem_cons_succ, List.getElem_cons_zero]
      rw [if_pos (by rfl)]
      go_simp
      go_at_call 18
      (with_reducible refine (HDT.out _ hHeld).mono ?_)
      rintro e w2 ⟨rfl, h2⟩
      refine hK.out _ _ (hHeld.trans h2) (fun hHeld => ?_)
      clear hK K
      try simp only [Act.put, List.setIfInBounds_toArray, List.set_cons_zero, List.set_cons_succ]
      refine held_one (j := 26) (by kernel_rfl) rfl (fun K hK => ?_)
      try simp only [List.getElem_toArray, List.getElem_cons_succ, List.getElem_cons_zero]
      rw [if_pos (by rfl)]
      go_simp
      go_at_call 19
      (with_reducible refine (HDR.out _ hHeld).mono ?_)
      rintro e w2 ⟨rfl, h2⟩
      refine hK.out _ _ (hHeld.trans h2) (fun hHeld => ?_)
      clear hK K
      try simp only [Act.put, List.setIfInBounds_toArray, List.set_cons_zero, List.set_cons_succ]
      refine held_take (i := 27) (v := ?_) (some 73) rfl rfl (by kernel_rfl) (by kernel_rfl) (by kernel_rfl) (fun _ _ _ h => h) (Or.inl ⟨by rfl, ?_⟩) hHeld ?_
      rotate_left 1
      · intro w' (h : Rel V w'); obtain ⟨⟨x0, x1, x2, x3⟩, _⟩ := (HBX.out.rel h).four; obtain ⟨⟨y0, y1, y2, y3⟩, _⟩ := (HBY.out.rel h).four; go_simp; try with_reducible rfl
      try simp only [Act.put, List.setIfInBounds_toArray, List.set_cons_zero, List.set_cons_succ]
      refine held_take (i := 28) (v := ?_) (some 74) rfl rfl (by kernel_rfl) (by kernel_rfl) (by kernel_rfl) (fun _ _ _ h => h) (Or.inl ⟨by rfl, ?_⟩) hHeld ?_
      rotate_left 1
      · intro w' (h : Rel V w'); obtain ⟨⟨x0, x1, x2, x3⟩, _⟩ := (HBX.out.rel h).four; obtain ⟨⟨y0, y1, y2, y3⟩, _⟩ := (HBY.out.rel h).four; go_simp; try with_reducible rfl
      try simp only [Act.put, List.setIfInBounds_toArray, List.set_cons_zero, List.set_cons_succ]
      refine held_take (i := 29) (v := ?_) (some 75) rfl rfl (by kernel_rfl) (by kernel_rfl) (by kernel_rfl) (fun _ _ _ h => h) (Or.inl ⟨by rfl, ?_⟩) hHeld ?_
      rotate_left 1
      · intro w' (h : Rel V w'); obtain ⟨⟨x0, x1, x2, x3⟩, _⟩ := (HBX.out.rel h).four; obtain ⟨⟨y0, y1, y2, y3⟩, _⟩ := (HBY.out.rel h).four; go_simp; try with_reducible rfl
      try simp only [Act.put, List.setIfInBounds_toArray, List.set_cons_zero, List.set_cons_succ]
      refine held_take (i := 30) (v := ?_) (some 76) rfl rfl (by kernel_rfl) (by kernel_rfl) (by kernel_rfl) (fun _ _ _ h => h) (Or.inl ⟨by rfl, ?_⟩) hHeld ?_
      rotate_left 1
      · intro w' (h : Rel V w'); obtain ⟨⟨x0, x1, x2, x3⟩, _⟩ := (HBX.out.rel h).four; obtain ⟨⟨y0, y1, y2, y3⟩, _⟩ := (HBY.out.rel h).four; go_simp; try with_reducible rfl
      try simp only [Act.put, List.setIfInBounds_toArray, List.set_cons_zero, List.set_cons_succ]
      refine held_take (i := 31) (v := ?_) (some 77) rfl rfl (by kernel_rfl) (by kernel_rfl) (by kernel_rfl) (fun _ _ _ h => h) (Or.inl ⟨by rfl, ?_⟩) hHeld ?_
      rotate_left 1
      · intro w' (h : Rel V w'); obtain ⟨⟨x0, x1, x2, x3⟩, _⟩ := (HBX.out.rel h).four; obtain ⟨⟨y0, y1, y2, y3⟩, _⟩ := (HBY.out.rel h).four; go_simp; try with_reducible rfl
      try simp only [Act.put, List.setIfInBounds_toArray, List.set_cons_zero, List.set_cons_succ]
      refine held_take (i := 33) (v := ?_) (some 79) rfl rfl (by kernel_rfl) (by kernel_rfl) (by kernel_rfl) (fun _ _ _ h => h) (Or.inl ⟨by rfl, ?_⟩) hHeld ?_
      rotate_left 1
      · intro w' (h : Rel V w'); obtain ⟨⟨x0, x1, x2, x3⟩, _⟩ := (HBX.out.rel h).four; obtain ⟨⟨y0, y1, y2, y3⟩, _⟩ := (HBY.out.rel h).four; go_simp; try with_reducible rfl
      try simp only [Act.put, List.setIfInBounds_toArray, List.set_cons_zero, List.set_cons_succ]
      refine held_take (i := 34) (v := ?_) (some 80) rfl rfl (by kernel_rfl) (by kernel_rfl) (by kernel_rfl) (fun _ _ _ h => h) (Or.inl ⟨by rfl, ?_⟩) hHeld ?_
      rotate_left 1
      · intro w' (h : Rel V w'); obtain ⟨⟨x0, x1, x2, x3⟩, _⟩ := (HBX.out.rel h).four; obtain ⟨⟨y0, y1, y2, y3⟩, _⟩ := (HBY.out.rel h).four; go_simp; try with_reducible rfl
      try simp only [Act.put, List.setIfInBounds_toArray, List.set_cons_zero, List.set_cons_succ]
      refine held_one (j := 32) (by kernel_rfl) rfl (fun K hK => ?_)
      try simp only [List.getElem_toArray, List.getElem_cons_succ, List.getElem_cons_zero]
      rw [if_pos (by rfl)]
      go_simp
      go_at_call 20
      (with_reducible refine (HMT.out _ hHeld).mono ?_)
      rintro e w2 ⟨rfl, h2⟩
      refine hK.out _ _ (hHeld.trans h2) (fun hHeld => ?_)
      clear hK K
      try simp only [Act.put, List.setIfInBounds_toArray, List.set_cons_zero, List.set_cons_succ]
      refine held_one (j := 35) (by kernel_rfl) rfl (fun K hK => ?_)
      try simp only [List.getElem_toArray, List.getElem_cons_succ, List.getElem_cons_zero]
      rw [if_pos (by rfl)]
      go_simp
      go_at_call 21
      (with_reducible refine (HMR.out _ hHeld).mono ?_)
      rintro e w2 ⟨rfl, h2⟩
      refine hK.out _ _ (hHeld.trans h2) (fun hHeld => ?_)
      clear hK K
      try simp only [Act.put, List.setIfInBounds_toArray, List.set_cons_zero, List.set_cons_succ]
      refine held_take (i := 36) (v := ?_) (some 82) rfl rfl (by kernel_rfl) (by kernel_rfl) (by kernel_rfl) (fun _ _ _ h => h) (Or.inl ⟨by rfl, ?_⟩) hHeld ?_
      rotate_left 1
      · intro w' (h : Rel V w'); obtain ⟨⟨x0, x1, x2, x3⟩, _⟩ := (HBX.out.rel h).four; obtain ⟨⟨y0, y1, y2, y3⟩, _⟩ := (HBY.out.rel h).four; go_simp; try with_reducible rfl
      try simp only [Act.put, List.setIfInBounds_toArray, List.set_cons_zero, List.set_cons_succ]
      refine held_take (i := 37) (v := ?_) (some 83) rfl rfl (by kernel_rfl) (by kernel_rfl) (by kernel_rfl) (fun _ _ _ h => h) (Or.inl ⟨by rfl, ?_⟩) hHeld ?_
      rotate_left 1
      · intro w' (h : Rel V w'); obtain ⟨⟨x0, x1, x2, x3⟩, _⟩ := (HBX.out.rel h).four; obtain ⟨⟨y0, y1, y2, y3⟩, _⟩ := (HBY.out.rel h).four; go_simp; try with_reducible rfl
      try simp only [Act.put, List.setIfInBounds_toArray, List.set_cons_zero, List.set_cons_succ]
      refine held_take (i := 38) (v := ?_) (some 84) rfl rfl (by kernel_rfl) (by kernel_rfl) (by kernel_rfl) (fun _ _ _ h => h) (Or.inl ⟨by rfl, ?_⟩) hHeld ?_
      rotate_left 1
      · intro w' (h : Rel V w'); obtain ⟨⟨x0, x1, x2, x3⟩, _⟩ := (HBX.out.rel h).four; obtain ⟨⟨y0, y1, y2, y3⟩, _⟩ := (HBY.out.rel h).four; go_simp; try with_reducible rfl
      try simp only [Act.put, List.setIfInBounds_toArray, List.set_cons_zero, List.set_cons_succ]
      refine held_take (i := 39) (v := ?_) (some 85) rfl rfl (by kernel_rfl) (by kernel_rfl) (by kernel_rfl) (fun _ _ _ h => h) (Or.inl ⟨by rfl, ?_⟩) hHeld ?_
      rotate_left 1
      · intro w' (h : Rel V w'); obtain ⟨⟨x0, x1, x2, x3⟩, _⟩ := (HBX.out.rel h).four; obtain ⟨⟨y0, y1, y2, y3⟩, _⟩ := (HBY.out.rel h).four; go_simp; try with_reducible rfl
      try simp only [Act.put, List.setIfInBounds_toArray, List.set_cons_zero, List.set_cons_succ]
      refine held_take (i := 40) (v := ?_) (some 86) rfl rfl (by kernel_rfl) (by kernel_rfl) (by kernel_rfl) (fun _ _ _ h => h) (Or.inl ⟨by rfl, ?_⟩) hHeld ?_
      rotate_left 1
      · intro w' (h : Rel V w'); obtain ⟨⟨x0, x1, x2, x3⟩, _⟩ := (HBX.out.rel h).four; obtain ⟨⟨y0, y1, y2, y3⟩, _⟩ := (HBY.out.rel h).four; go_simp; try with_reducible rfl
      try simp only [Act.put, List.setIfInBounds_toArray, List.set_cons_zero, List.set_cons_succ]
      refine held_one (j := 41) (by kernel_rfl) rfl (fun K hK => ?_)
      try simp only [List.getElem_toArray, List.getElem_cons_succ, List.getElem_cons_zero]
      rw [if_pos (by rfl)]
      go_simp
      go_at_call 20
      (with_reducible refine (HXX.out _ hHeld).mono ?_)
      rintro e w2 ⟨rfl, h2⟩
      refine hK.out _ _ (hHeld.trans h2) (fun hHeld => ?_)
      clear hK K
      try simp only [Act.put, List.setIfInBounds_toArray, List.set_cons_zero, List.set_cons_succ]
      refine held_take (i := 42) (v := ?_) (some 88) rfl rfl (by kernel_rfl) (by kernel_rfl) (by kernel_rfl) (fun _ _ _ h => h) (Or.inl ⟨by rfl, ?_⟩) hHeld ?_
      rotate_left 1
      · intro w' (h : Rel V w'); obtain ⟨⟨x0, x1, x2, x3⟩, _⟩ := (HBX.out.rel h).four; obtain ⟨⟨y0, y1, y2, y3⟩, _⟩ := (HBY.out.rel h).four; go_simp; try with_reducible rfl
      try simp only [Act.put, List.setIfInBounds_toArray, List.set_cons_zero, List.set_cons_succ]
      refine held_take (i := 43) (v := ?_) (some 89) rfl rfl (by kernel_rfl) (by kernel_rfl) (by kernel_rfl) (fun _ _ _ h => h) (Or.inl ⟨by rfl, ?_⟩) hHeld ?_
      rotate_left 1
      · intro w' (h : Rel V w'); obtain ⟨⟨x0, x1, x2, x3⟩, _⟩ := (HBX.out.rel h).four; obtain ⟨⟨y0, y1, y2, y3⟩, _⟩ := (HBY.out.rel h).four; go_simp; try with_reducible rfl
      try simp only [Act.put, List.setIfInBounds_toArray, List.set_cons_zero, List.set_cons_succ]
      refine wpAnyH_done (by kernel_rfl) ?_ _
      go_wp2_with (fail)
      go_roundw
      case rel => exact ⟨j + 1, by go_num, by omega, HVr.out.trans hHeld⟩
      case measure => simp [RowKit.intOf]; omega
    · obtain rfl : j = 3 := by omega
      go_wp2_with (fail)
      go_ret
      exact ⟨rfl, HR5.out.trans HRw.out⟩
end Go.Proofs.YtlflfffjaodhpaaDoor
