/- Layer 16: what is popped, until there are none, is all that was there, the most urgent first. -/
import Derived.Test.YtminmcledbfchaaZL
import Derived.Test.YtminmcledbfchaaZ00
import Derived.Test.YtminmcledbfchaaZ01
import Derived.Test.YtminmcledbfchaaZ06
import Derived.Test.YtminmcledbfchaaZ08
import Derived.Test.YtminmcledbfchaaZ10
import Derived.Test.YtminmcledbfchaaZ11
import Derived.Test.YtminmcledbfchaaZ14
import Derived.Test.YtminmcledbfchaaZ15
import Derived.Test.YtminmcledbfchaaZ21
namespace Go.Proofs.Ytminmcledbfchaa
open Go.RowKit Go.Lib
set_option linter.unusedVariables false
set_option linter.unusedSimpArgs false
theorem Ro.far {S : Nat → Prop} {w : World} {A : Option Addr} {l : List It} (h : Ro S w A l) {p : Addr} (hp : ∀ a, A = some a → a.block ≠ p.block) (u : Value) : Ro S (w.setCell p u) A l := by
  refine ⟨fun i hi => ?_, fun a ha => ⟨(h.2 a ha).1, by simpa using (h.2 a ha).2⟩⟩
  obtain ⟨g, off, e, hl, hc⟩ := h.1 i hi
  have hb := Below.heap_setCell w p u g (hp _ e)
  refine ⟨g, off, e, by simpa using hl, fun j hj => ?_⟩
  rw [World.cell?_of_block (w := w) (a := ⟨g, off + i * 2 + j, none⟩) hb]
  exact hc j hj
theorem take_mem16 {l : List It} {j : Nat} (hj : j < l.length) {x : It} : decide (x ∈ l.take (j + 1)) = (decide (x ∈ l.take j) || decide (l[j] = x)) := by
  rw [List.take_succ_eq_append_getElem hj, Bool.eq_iff_iff, Bool.or_eq_true, decide_eq_true_eq, decide_eq_true_eq, decide_eq_true_eq, List.mem_append, List.mem_singleton]
  exact ⟨fun h => h.imp id Eq.symm, fun h => h.imp id Eq.symm⟩
set_option maxRecDepth 100000 in
set_option maxHeartbeats 16000000 in
theorem HeapSorts_at {HP : HpT} (H : HeapOk HP) (zs : List (Int × Int)) (AZ : Option Addr) (kz : Nat) (w : World) (hr : Rel w w) (hZ : PairsIn w AZ zs.length zs) :
    Calls Try.prog 4 #[.slice AZ zs.length kz] w fun e w' => e = .returned (.bool true) ∧ Rel w w' := by
  have HR := Lib.hid hr
  have HH := Lib.hid H
  have HZ := Lib.hid hZ
  have HAw := Lib.hid (fun (w : World) (hr : Rel w w) => awake16_any H w hr)
  have HMd := Lib.hid (fun (w : World) (hr : Rel w w) (hZ : PairsIn w AZ zs.length zs) => made16_any H zs AZ kz w hr hZ)
  obtain ⟨L0, hL0⟩ : ∃ l, madeL zs = l := ⟨_, rfl⟩
  obtain ⟨hm1, hm2, hm3⟩ := madeL_all zs
  rw [hL0] at hm1 hm2 hm3 HMd
  obtain ⟨n, hn⟩ : ∃ n, L0.length = n := ⟨_, rfl⟩
  rw [hn] at hm1 hm2
  obtain ⟨N, hN⟩ : ∃ n, zs.length = n := ⟨_, rfl⟩
  rw [hN] at hm2 HMd HZ ⊢
  have hN9 : N ≤ 9223372036854775807 := by rw [← hN]; exact hZ.2.1
  have HS := Lib.hid hm3
  have HLn := Lib.hid hn
  obtain ⟨gg, hgg⟩ : ∃ g, decide (0 < n) = g := ⟨_, rfl⟩
  have g1 : decide ((0 : Int) < (n : Int)) = gg := by rw [← hgg, Bool.eq_iff_iff, decide_eq_true_eq, decide_eq_true_eq]; omega
  have g2 : decide ((0 : Int) < (N : Int)) = gg := by rw [← hgg, Bool.eq_iff_iff, decide_eq_true_eq, decide_eq_true_eq]; omega
  have g2' : decide (0 < N) = gg := by rw [← hgg, Bool.eq_iff_iff, decide_eq_true_eq, decide_eq_true_eq]; omega
  have g3 : (gg == gg) = true := by simp
  clear H hr hZ hL0 hm2 hm3 hn hN
  go_enter Try.func4, Try.ntmps4
  go_upto_region 2 with (go_at_call 9; (with_reducible refine (HAw.out w HR.out).mono ?_); rintro e w1 ⟨rfl, h1⟩; have R1 := Lib.hid h1; clear h1)
  go_upto_region 3 with (go_at_call 28; (with_reducible refine (HMd.out w1 R1.out.self (HZ.out.rel16 R1.out)).mono ?_); rintro e w2 ⟨g0, S0, rfl, hM⟩)
  have h2 := Lib.hid (show Hq HP w w2 (.pointer (some ⟨g0, 0, none⟩)) S0 1000 L0 from ⟨hM.out.hp, R1.out.trans hM.out.rel, fun k hk => Nat.le_trans R1.out.size (hM.out.new k hk)⟩)
  obtain ⟨v, hv⟩ : ∃ v, Value.pointer (some ⟨g0, 0, none⟩) = v := ⟨_, rfl⟩
  rw [hv] at h2
  try rw [hv]
  clear hv hM HMd HAw R1
  go_upto_region 4 with (go_at_call 27; (with_reducible refine (hall16 HH.out h2.out HLn.out).mono ?_); rintro e w3 ⟨A, c, rfl, hRo, hcc, h3⟩)
  obtain ⟨hc0, hc1⟩ := hcc.out
  unfold maxLen at hc1
  have h3' := Lib.hid (Hq.to HH.out h2.out h3.out)
  go_upto_region 5 with (go_at_call 25; (with_reducible refine (hlen16 HH.out h3'.out HLn.out).mono ?_); rintro e w4 ⟨rfl, h4⟩)
  have h4' := Lib.hid (Hq.to HH.out h3'.out h4.out)
  have Ro4 := Lib.hid (hRo.out.rel h4.out)
  clear h2 h3 h3' h4 hRo
  go_upto_region 6 with (fail)
  have AL := Lib.hid (h4'.out.rel.self.alloc (.cells #[.int .i64 0, .int .i64 0] 36))
  have BL := Lib.hid (Bx.new HH.out h4'.out 36 #[.int .i64 0, .int .i64 0])
  have h5 := Lib.hid (Hq.to HH.out h4'.out AL.out)
  have Ro5 := Lib.hid (Ro4.out.rel AL.out)
  have NA := Lib.hid (fun a ha => Nat.ne_of_lt (Ro4.out.2 a ha).2)
  have SL := Lib.hid h4'.out.rel.size
  obtain ⟨w5, hw5⟩ : ∃ W, w4.alloc (.cells #[.int .i64 0, .int .i64 0] 36) = W := ⟨_, rfl⟩
  obtain ⟨gl, hgl⟩ : ∃ g, w4.heap.size = g := ⟨_, rfl⟩
  rw [hw5] at BL h5 Ro5
  rw [hgl] at BL NA SL
  try rw [hw5]
  try rw [hgl]
  clear hw5 hgl h4' Ro4 AL
  go_upto_block 0 with (fail)
  go_cut [] (fun wx => ∃ (S : Nat → Prop), Hq HP w wx v S 1000 (popsH L0 n))
  case first =>
    go_wp2_with (fail)
    go_loopw [8] (fun i wr => ∃ (q : Nat) (S : Nat → Prop) (lk lp : Int), q ≤ n ∧ i = .int .i64 (q : Int) ∧ Hid (Hq HP w wr v S 1000 (popsH L0 q)) ∧ Hid (Ro S wr A L0) ∧ Hid (Bx S wr gl 36 #[.int .i64 lk, .int .i64 lp]) ∧ Hid (0 < q → topH (popsH L0 (q - 1)) = some (lk, lp))) (fun i _ => n - (RowKit.intOf i).toNat)
    case atStart => exact ⟨0, S0, 0, 0, by omega, rfl, h5, Ro5, BL, Lib.hid (fun h => absurd h (by omega))⟩
    case round =>
      obtain ⟨q, S, lk, lp, hq, rfl, HQ, HO, HB, HLs⟩ := hrel
      by_cases hlt : q < n
      rotate_left 1
      · obtain rfl : q = n := by omega
        go_wp2_with (fail)
        go_meet
        exact ⟨S, HQ.out⟩
      have hiq : (q : Int) < (n : Int) := by omega
      have hiq0 : (0 : Int) ≤ (q : Int) := by omega
      have hlen := pops_len HS.out q (by rw [HLn.out]; omega)
      rw [HLn.out] at hlen
      obtain ⟨⟨xk, xp⟩, htop⟩ := top_some (L := popsH L0 q) (by omega)
      have HPo := Lib.hid (fun (w1 : World) (h : Hq HP w w1 v S 1000 (popsH L0 q)) => hpop16 HH.out h (x := xk) (y := xp) (b := true) (L' := popsH L0 (q + 1)) (by rw [htop]; rfl) (by rw [htop]; rfl) rfl)
      have HTop := Lib.hid htop
      have HIn := Lib.hid (show (xk, xp) ∈ L0 from pops_sub q (top_mem htop))
      have hord : 0 < q → urgH (lk, lp) (xk, xp) := fun h0 => by
        have h1 := HLs.out h0
        have e : popsH L0 q = popH (popsH L0 (q - 1)) := by
          obtain ⟨r, rfl⟩ : ∃ r, q = r + 1 := ⟨q - 1, by omega⟩
          rfl
        rw [e] at htop
        exact pop_next (pops_srt HS.out _) h1 htop
      have hcs : q = 0 ∨ (0 < q ∧ lp ≠ xp ∧ xp < lp) ∨ (0 < q ∧ lp = xp ∧ lk < xk) := by
        by_cases h0 : q = 0
        · exact .inl h0
        · have h1 := hord (by omega)
          unfold urgH at h1
          rcases h1 with h1 | h1
          · exact .inr (.inl ⟨by omega, by omega, h1⟩)
          · exact .inr (.inr ⟨by omega, h1.1.symm, h1.2⟩)
      have HCs := Lib.hid hcs
      obtain ⟨nn, hnn⟩ : ∃ z, n - (q + 1) = z := ⟨_, rfl⟩
      have HLn2 := Lib.hid (show (popsH L0 (q + 1)).length = nn by rw [pops_len HS.out _ (by rw [HLn.out]; omega), HLn.out, hnn])
      have i1 : (n : Int) - 1 - (q : Int) = (nn : Int) := by omega
      have i2 : ((nn : Int) != (nn : Int)) = false := by simp
      have i3 : (nn != nn) = false := by simp
      clear hlen htop hord hcs hnn
      go_upto_region 10 with (go_at_call 15; (with_reducible refine (HPo.out wr HQ.out).mono ?_); rintro e w7 ⟨S7, rfl, h7, s7⟩)
      have HO7 := Lib.hid (HO.out.st s7.out)
      have HB7 := Lib.hid (HB.out.st s7.out)
      have AL7 := Lib.hid (h7.out.rel.self.alloc (.cells #[.int .i64 xk, .int .i64 xp] 36))
      have HX8 := Lib.hid (Bx.new HH.out h7.out 36 #[.int .i64 xk, .int .i64 xp])
      have h8 := Lib.hid (Hq.to HH.out h7.out AL7.out)
      have HO8 := Lib.hid (HO7.out.rel AL7.out)
      have HB8 := Lib.hid (HB7.out.rel AL7.out)
      obtain ⟨w8, hw8⟩ : ∃ W, w7.alloc (.cells #[.int .i64 xk, .int .i64 xp] 36) = W := ⟨_, rfl⟩
      obtain ⟨gx, hgx⟩ : ∃ g, w7.heap.size = g := ⟨_, rfl⟩
      rw [hw8] at HX8 h8 HO8 HB8
      rw [hgx] at HX8
      try rw [hw8]
      try rw [hgx]
      clear hw8 hgx h7 s7 HO7 HB7 AL7 HPo HQ HO HB
      obtain ⟨⟨x0, x1⟩, _⟩ := HX8.out.1.two
      obtain ⟨⟨l0, l1⟩, _⟩ := HB8.out.1.two
      go_cut [58] (fun v wx => v = .bool false ∧ w8 = wx)
      case first =>
        rcases HCs.out with h0 | ⟨h0, h1, h2⟩ | ⟨h0, h1, h2⟩
        · subst h0
          go_wp2_with (fail)
          go_meet
          exact ⟨rfl, rfl⟩
        · have d1 : decide ((0 : Int) < (q : Int)) = true := decide_eq_true (by omega)
          have d2 : decide (0 < q) = true := decide_eq_true h0
          have d3 : decide (lp < xp) = false := decide_eq_false (by omega)
          have d4 : (xp == lp) = false := by simpa using fun e => h1 (Eq.symm e)
          clear h0 h1 h2
          go_wp2_with (fail)
          go_meet
          exact ⟨rfl, rfl⟩
        · have d1 : decide ((0 : Int) < (q : Int)) = true := decide_eq_true (by omega)
          have d2 : decide (0 < q) = true := decide_eq_true h0
          have d3 : decide (lp < xp) = false := decide_eq_false (by omega)
          have d4 : (xp == lp) = true := by rw [h1]; simp
          have d5 : decide (xk ≤ lk) = false := decide_eq_false (by omega)
          clear h0 h1 h2
          go_wp2_with (fail)
          go_meet
          exact ⟨rfl, rfl⟩
      obtain ⟨rfl, rfl⟩ := hcut
      go_upto_block 2 with (fail)
      go_cut [11] (fun v wx => v = .bool true ∧ Hid (Rel w8 wx))
      case first =>
        go_wp2_with (fail)
        go_loopw [11, 12] (fun hv k wr => ∃ j : Nat, j ≤ n ∧ k = .int .i64 (j : Int) ∧ hv = .bool (decide ((xk, xp) ∈ L0.take j)) ∧ Hid (Rel w8 wr)) (fun _ k _ => n - (RowKit.intOf k).toNat)
        case atStart => exact ⟨0, by omega, rfl, by simp, Lib.hid h8.out.rel.self⟩
        case round =>
          obtain ⟨j, hj, rfl, rfl, HWi⟩ := hrel
          by_cases hltj : j < n
          rotate_left 1
          · obtain rfl : j = n := by omega
            have e : decide ((xk, xp) ∈ L0.take j) = true := decide_eq_true (by rw [List.take_of_length_le (by rw [HLn.out]; omega)]; exact HIn.out)
            go_wp2_with (fail)
            go_meet
            exact ⟨by rw [e], HWi⟩
          have hji : (j : Int) < (n : Int) := by omega
          have hji0 : (0 : Int) ≤ (j : Int) := by omega
          have hjL : j < L0.length := by rw [HLn.out]; exact hltj
          have htk := take_mem16 (l := L0) hjL (x := (xk, xp))
          obtain ⟨g, off, rfl, hc⟩ := ro16_at (HO8.out.rel HWi.out) (by omega)
          obtain ⟨e0, e1⟩ := hc j hjL
          obtain ⟨⟨ek, ep⟩, hek⟩ : ∃ z, L0[j] = z := ⟨_, rfl⟩
          rw [hek] at e0 e1 htk
          have E0 := Lib.hid (show wr.cell? ⟨g, off + j * 2, none⟩ = some (.int .i64 ek) from e0)
          have E1 := Lib.hid (show wr.cell? ⟨g, off + j * 2 + 1, none⟩ = some (.int .i64 ep) from e1)
          obtain ⟨b1, hb1⟩ : ∃ b, decide ((xk, xp) ∈ L0.take j) = b := ⟨_, rfl⟩
          rw [hb1] at htk
          rw [hb1]
          clear hc hek e0 e1 hb1
          cases b1 with
          | true =>
            have HTk := Lib.hid (show decide ((xk, xp) ∈ L0.take (j + 1)) = true from htk)
            clear htk
            go_upto_region 16 with (fail)
            refine wp_region_held_drew (S := (fun w' => Rel wr w')) (by kernel_rfl) HWi.out.self.drew (fun hHeld => ?_)
            refine held_take (i := 0) (v := ?_) (some 65) rfl rfl (by kernel_rfl) (by kernel_rfl) (by kernel_rfl) (fun _ _ _ h => h) (Or.inl ⟨by rfl, ?_⟩) hHeld ?_
            rotate_left 1
            · rintro w' hr'; have h0 := hr'; go_simp; try with_reducible rfl
            try simp only [Act.put, List.setIfInBounds_toArray, List.set_cons_zero, List.set_cons_succ]
            refine held_take (i := 1) (v := ?_) (some 66) rfl rfl (by kernel_rfl) (by kernel_rfl) (by kernel_rfl) (fun _ _ _ h => h) (Or.inl ⟨by rfl, ?_⟩) hHeld ?_
            rotate_left 1
            · rintro w' hr'; have h0 := hr'; go_simp; try with_reducible rfl
            try simp only [Act.put, List.setIfInBounds_toArray, List.set_cons_zero, List.set_cons_succ]
            refine held_take (i := 2) (v := undef) (some 67) rfl rfl (by kernel_rfl) (by kernel_rfl) (by kernel_rfl) (fun _ _ _ h => h) (Or.inr ⟨by rfl, rfl⟩) hHeld ?_
            try simp only [Act.put, List.setIfInBounds_toArray, List.set_cons_zero, List.set_cons_succ]
            refine held_take (i := 3) (v := undef) (some 68) rfl rfl (by kernel_rfl) (by kernel_rfl) (by kernel_rfl) (fun _ _ _ h => h) (Or.inr ⟨by rfl, rfl⟩) hHeld ?_
            try simp only [Act.put, List.setIfInBounds_toArray, List.set_cons_zero, List.set_cons_succ]
            refine held_take (i := 4) (v := undef) (some 69) rfl rfl (by kernel_rfl) (by kernel_rfl) (by kernel_rfl) (fun _ _ _ h => h) (Or.inr ⟨by rfl, rfl⟩) hHeld ?_
            try simp only [Act.put, List.setIfInBounds_toArray, List.set_cons_zero, List.set_cons_succ]
            refine held_take (i := 5) (v := undef) (some 70) rfl rfl (by kernel_rfl) (by kernel_rfl) (by kernel_rfl) (fun _ _ _ h => h) (Or.inr ⟨by rfl, rfl⟩) hHeld ?_
            try simp only [Act.put, List.setIfInBounds_toArray, List.set_cons_zero, List.set_cons_succ]
            refine held_take (i := 6) (v := undef) (some 71) rfl rfl (by kernel_rfl) (by kernel_rfl) (by kernel_rfl) (fun _ _ _ h => h) (Or.inr ⟨by rfl, rfl⟩) hHeld ?_
            try simp only [Act.put, List.setIfInBounds_toArray, List.set_cons_zero, List.set_cons_succ]
            refine held_take (i := 7) (v := undef) (some 72) rfl rfl (by kernel_rfl) (by kernel_rfl) (by kernel_rfl) (fun _ _ _ h => h) (Or.inr ⟨by rfl, rfl⟩) hHeld ?_
            try simp only [Act.put, List.setIfInBounds_toArray, List.set_cons_zero, List.set_cons_succ]
            refine held_take (i := 8) (v := ?_) (some 73) rfl rfl (by kernel_rfl) (by kernel_rfl) (by kernel_rfl) (fun _ _ _ h => h) (Or.inl ⟨by rfl, ?_⟩) hHeld ?_
            rotate_left 1
            · rintro w' hr'; have h0 := hr'; go_simp; try with_reducible rfl
            try simp only [Act.put, List.setIfInBounds_toArray, List.set_cons_zero, List.set_cons_succ]
            refine held_take (i := 9) (v := ?_) (some 11) rfl rfl (by kernel_rfl) (by kernel_rfl) (by kernel_rfl) (fun _ _ _ h => h) (Or.inl ⟨by rfl, ?_⟩) hHeld ?_
            rotate_left 1
            · rintro w' hr'; have h0 := hr'; go_simp; try with_reducible rfl
            try simp only [Act.put, List.setIfInBounds_toArray, List.set_cons_zero, List.set_cons_succ]
            refine wpAnyH_done (by kernel_rfl) ?_ _
            go_wp2_with (fail)
            go_roundw
            case rel => exact ⟨j + 1, by omega, by go_num, by rw [HTk.out], Lib.hid (HWi.out.trans hHeld)⟩
            case measure => simp [RowKit.intOf]; omega
          | false =>
            by_cases q1 : ek = xk <;> by_cases q2 : ep = xp
            all_goals
              have HTk := Lib.hid (show decide ((xk, xp) ∈ L0.take (j + 1)) = decide ((ek, ep) = (xk, xp)) from htk)
              clear htk
              try subst q1
              try subst q2
              go_upto_region 16 with (fail)
              refine wp_region_held_drew (S := (fun w' => Rel wr w')) (by kernel_rfl) HWi.out.self.drew (fun hHeld => ?_)
              refine held_take (i := 0) (v := ?_) (some 65) rfl rfl (by kernel_rfl) (by kernel_rfl) (by kernel_rfl) (fun _ _ _ h => h) (Or.inl ⟨by rfl, ?_⟩) hHeld ?_
              rotate_left 1
              · rintro w' hr'; obtain ⟨x0, x1⟩ := (HX8.out.rel (HWi.out.trans hr')).1.two.1; have e0' := (hr'.2.cell (p := ⟨g, off + j * 2, none⟩) (blk_of_cell E0.out)).trans E0.out; have e1' := (hr'.2.cell (p := ⟨g, off + j * 2 + 1, none⟩) (blk_of_cell E1.out)).trans E1.out; go_simp; try with_reducible rfl
              try simp only [Act.put, List.setIfInBounds_toArray, List.set_cons_zero, List.set_cons_succ]
              refine held_take (i := 1) (v := ?_) (some 66) rfl rfl (by kernel_rfl) (by kernel_rfl) (by kernel_rfl) (fun _ _ _ h => h) (Or.inl ⟨by rfl, ?_⟩) hHeld ?_
              rotate_left 1
              · rintro w' hr'; obtain ⟨x0, x1⟩ := (HX8.out.rel (HWi.out.trans hr')).1.two.1; have e0' := (hr'.2.cell (p := ⟨g, off + j * 2, none⟩) (blk_of_cell E0.out)).trans E0.out; have e1' := (hr'.2.cell (p := ⟨g, off + j * 2 + 1, none⟩) (blk_of_cell E1.out)).trans E1.out; go_simp; try with_reducible rfl
              try simp only [Act.put, List.setIfInBounds_toArray, List.set_cons_zero, List.set_cons_succ]
              refine held_take (i := 2) (v := ?_) (some 67) rfl rfl (by kernel_rfl) (by kernel_rfl) (by kernel_rfl) (fun _ _ _ h => h) (Or.inl ⟨by rfl, ?_⟩) hHeld ?_
              rotate_left 1
              · rintro w' hr'; obtain ⟨x0, x1⟩ := (HX8.out.rel (HWi.out.trans hr')).1.two.1; have e0' := (hr'.2.cell (p := ⟨g, off + j * 2, none⟩) (blk_of_cell E0.out)).trans E0.out; have e1' := (hr'.2.cell (p := ⟨g, off + j * 2 + 1, none⟩) (blk_of_cell E1.out)).trans E1.out; go_simp; try with_reducible rfl
              try simp only [Act.put, List.setIfInBounds_toArray, List.set_cons_zero, List.set_cons_succ]
              refine held_take (i := 3) (v := ?_) (some 68) rfl rfl (by kernel_rfl) (by kernel_rfl) (by kernel_rfl) (fun _ _ _ h => h) (Or.inl ⟨by rfl, ?_⟩) hHeld ?_
              rotate_left 1
              · rintro w' hr'; obtain ⟨x0, x1⟩ := (HX8.out.rel (HWi.out.trans hr')).1.two.1; have e0' := (hr'.2.cell (p := ⟨g, off + j * 2, none⟩) (blk_of_cell E0.out)).trans E0.out; have e1' := (hr'.2.cell (p := ⟨g, off + j * 2 + 1, none⟩) (blk_of_cell E1.out)).trans E1.out; go_simp; try with_reducible rfl
              try simp only [Act.put, List.setIfInBounds_toArray, List.set_cons_zero, List.set_cons_succ]
              refine held_take (i := 4) (v := ?_) (some 69) rfl rfl (by kernel_rfl) (by kernel_rfl) (by kernel_rfl) (fun _ _ _ h => h) (Or.inl ⟨by rfl, ?_⟩) hHeld ?_
              rotate_left 1
              · rintro w' hr'; obtain ⟨x0, x1⟩ := (HX8.out.rel (HWi.out.trans hr')).1.two.1; have e0' := (hr'.2.cell (p := ⟨g, off + j * 2, none⟩) (blk_of_cell E0.out)).trans E0.out; have e1' := (hr'.2.cell (p := ⟨g, off + j * 2 + 1, none⟩) (blk_of_cell E1.out)).trans E1.out; go_simp; try with_reducible rfl
              try simp only [Act.put, List.setIfInBounds_toArray, List.set_cons_zero, List.set_cons_succ]
              refine held_take (i := 5) (v := ?_) (some 70) rfl rfl (by kernel_rfl) (by kernel_rfl) (by kernel_rfl) (fun _ _ _ h => h) (Or.inl ⟨by rfl, ?_⟩) hHeld ?_
              rotate_left 1
              · rintro w' hr'; obtain ⟨x0, x1⟩ := (HX8.out.rel (HWi.out.trans hr')).1.two.1; have e0' := (hr'.2.cell (p := ⟨g, off + j * 2, none⟩) (blk_of_cell E0.out)).trans E0.out; have e1' := (hr'.2.cell (p := ⟨g, off + j * 2 + 1, none⟩) (blk_of_cell E1.out)).trans E1.out; go_simp; try with_reducible rfl
              try simp only [Act.put, List.setIfInBounds_toArray, List.set_cons_zero, List.set_cons_succ]
              refine held_take (i := 6) (v := ?_) (some 71) rfl rfl (by kernel_rfl) (by kernel_rfl) (by kernel_rfl) (fun _ _ _ h => h) (Or.inl ⟨by rfl, ?_⟩) hHeld ?_
              rotate_left 1
              · rintro w' hr'; obtain ⟨x0, x1⟩ := (HX8.out.rel (HWi.out.trans hr')).1.two.1; have e0' := (hr'.2.cell (p := ⟨g, off + j * 2, none⟩) (blk_of_cell E0.out)).trans E0.out; have e1' := (hr'.2.cell (p := ⟨g, off + j * 2 + 1, none⟩) (blk_of_cell E1.out)).trans E1.out; go_simp; try with_reducible rfl
              try simp only [Act.put, List.setIfInBounds_toArray, List.set_cons_zero, List.set_cons_succ]
              refine held_take (i := 7) (v := ?_) (some 72) rfl rfl (by kernel_rfl) (by kernel_rfl) (by kernel_rfl) (fun _ _ _ h => h) (Or.inl ⟨by rfl, ?_⟩) hHeld ?_
              rotate_left 1
              · rintro w' hr'; obtain ⟨x0, x1⟩ := (HX8.out.rel (HWi.out.trans hr')).1.two.1; have e0' := (hr'.2.cell (p := ⟨g, off + j * 2, none⟩) (blk_of_cell E0.out)).trans E0.out; have e1' := (hr'.2.cell (p := ⟨g, off + j * 2 + 1, none⟩) (blk_of_cell E1.out)).trans E1.out; go_simp; try with_reducible rfl
              try simp only [Act.put, List.setIfInBounds_toArray, List.set_cons_zero, List.set_cons_succ]
              refine held_take (i := 8) (v := ?_) (some 73) rfl rfl (by kernel_rfl) (by kernel_rfl) (by kernel_rfl) (fun _ _ _ h => h) (Or.inl ⟨by rfl, ?_⟩) hHeld ?_
              rotate_left 1
              · rintro w' hr'; obtain ⟨x0, x1⟩ := (HX8.out.rel (HWi.out.trans hr')).1.two.1; have e0' := (hr'.2.cell (p := ⟨g, off + j * 2, none⟩) (blk_of_cell E0.out)).trans E0.out; have e1' := (hr'.2.cell (p := ⟨g, off + j * 2 + 1, none⟩) (blk_of_cell E1.out)).trans E1.out; go_simp; try with_reducible rfl
              try simp only [Act.put, List.setIfInBounds_toArray, List.set_cons_zero, List.set_cons_succ]
              refine held_take (i := 9) (v := ?_) (some 11) rfl rfl (by kernel_rfl) (by kernel_rfl) (by kernel_rfl) (fun _ _ _ h => h) (Or.inl ⟨by rfl, ?_⟩) hHeld ?_
              rotate_left 1
              · rintro w' hr'; obtain ⟨x0, x1⟩ := (HX8.out.rel (HWi.out.trans hr')).1.two.1; have e0' := (hr'.2.cell (p := ⟨g, off + j * 2, none⟩) (blk_of_cell E0.out)).trans E0.out; have e1' := (hr'.2.cell (p := ⟨g, off + j * 2 + 1, none⟩) (blk_of_cell E1.out)).trans E1.out; go_simp; try with_reducible rfl
              try simp only [Act.put, List.setIfInBounds_toArray, List.set_cons_zero, List.set_cons_succ]
              refine wpAnyH_done (by kernel_rfl) ?_ _
              go_wp2_with (fail)
              go_roundw
              case rel => exact ⟨j + 1, by omega, by go_num, by rw [HTk.out]; first | rw [decide_eq_true rfl] | (rw [decide_eq_false (fun e => by injection e with a b; first | exact q1 a | exact q2 b)]), Lib.hid (HWi.out.trans hHeld)⟩
              case measure => simp [RowKit.intOf]; omega
      obtain ⟨rfl, HWx⟩ := hcut
      have h9 := Lib.hid (Hq.to HH.out h8.out HWx.out)
      have HX9 := Lib.hid (HX8.out.rel HWx.out)
      have HO9 := Lib.hid (HO8.out.rel HWx.out)
      have HB9 := Lib.hid (HB8.out.rel HWx.out)
      clear h8 HX8 HO8 HB8 HWx x0 x1 l0 l1
      go_upto_region 19 with (go_at_call 25; (with_reducible refine (hlen16 HH.out h9.out HLn2.out).mono ?_); rintro e w10 ⟨rfl, h10⟩)
      have hA := Lib.hid (Hq.to HH.out h9.out h10.out)
      have HXA := Lib.hid (HX9.out.rel h10.out)
      have HOA := Lib.hid (HO9.out.rel h10.out)
      have HBA := Lib.hid (HB9.out.rel h10.out)
      clear h9 HX9 HO9 HB9 h10
      obtain ⟨⟨x0, x1⟩, _⟩ := HXA.out.1.two
      obtain ⟨⟨l0, l1⟩, ⟨lf0, lf1⟩⟩ := HBA.out.1.two
      go_wp2_with (fail)
      have hP := Lib.hid (Hq.put HH.out (Hq.put HH.out hA.out (p := ⟨gl, 0, none⟩) HBA.out.2 SL.out (.int .i64 xk)) (p := ⟨gl, 1, none⟩) HBA.out.2 SL.out (.int .i64 xp))
      have HOP := Lib.hid ((HOA.out.far (p := ⟨gl, 0, none⟩) NA.out (.int .i64 xk)).far (p := ⟨gl, 1, none⟩) NA.out (.int .i64 xp))
      have HBP := Lib.hid (show Bx S7 ((w10.setCell ⟨gl, 0, none⟩ (.int .i64 xk)).setCell ⟨gl, 1, none⟩ (.int .i64 xp)) gl 36 #[.int .i64 xk, .int .i64 xp] from ⟨(HBA.out.1.set_ 0 (.int .i64 xk)).set_ 1 (.int .i64 xp), HBA.out.2⟩)
      go_roundw
      case rel => exact ⟨q + 1, S7, xk, xp, by omega, by go_num, hP, HOP, HBP, Lib.hid (fun _ => HTop.out)⟩
      case measure => simp [RowKit.intOf]; omega
  obtain ⟨S, hQ⟩ := hcut
  have HQ := Lib.hid hQ
  clear hQ
  have hnil : popsH L0 n = [] := List.length_eq_zero_iff.1 (by rw [pops_len HS.out n (by rw [HLn.out]; omega), HLn.out]; omega)
  rw [hnil] at HQ
  clear hnil
  go_upto_region 21 with (go_at_call 15; (with_reducible refine (hpop16 HH.out HQ.out (x := 0) (y := 0) (b := false) (L' := []) rfl rfl rfl).mono ?_); rintro e w12 ⟨S12, rfl, h12, _⟩)
  have R13 := Lib.hid (h12.out.rel.alloc (.cells #[.int .i64 0, .int .i64 0] 36))
  go_wp2_with (fail)
  go_ret
  exact ⟨rfl, R13.out⟩
end Go.Proofs.Ytminmcledbfchaa
