/- Layer 16: what is removed is gone, all others stay; pushed again, all is as it was (HeapKeeps). -/
import Derived.Test.YtminmcledbfchaaZL
import Derived.Test.YtminmcledbfchaaZ00
import Derived.Test.YtminmcledbfchaaZ01
import Derived.Test.YtminmcledbfchaaZ06
import Derived.Test.YtminmcledbfchaaZ08
import Derived.Test.YtminmcledbfchaaZ09
import Derived.Test.YtminmcledbfchaaZ11
import Derived.Test.YtminmcledbfchaaZ13
import Derived.Test.YtminmcledbfchaaZ14
import Derived.Test.YtminmcledbfchaaZ18
namespace Go.Proofs.Ytminmcledbfchaa
open Go.RowKit Go.Lib
set_option linter.unusedVariables false
set_option linter.unusedSimpArgs false
theorem count16 (b : Bool) (w : World) :
    Calls Try.prog 29 #[.bool b] w fun e w' => e = .returned (.int .i64 (if b then 1 else 0)) ∧ w = w' := by
  cases b
  all_goals
    go_enter Try.func29, Try.ntmps29
    go_wp2
    all_goals
      go_ret
      exact ⟨rfl, rfl⟩
set_option maxRecDepth 100000 in
set_option maxHeartbeats 16000000 in
theorem HeapKeeps_at {HP : HpT} (H : HeapOk HP) (zs : List (Int × Int)) (AZ : Option Addr) (kz : Nat) (x : Int) (hx : i64 x) (w : World) (hr : Rel w w) (hZ : PairsIn w AZ zs.length zs) :
    Calls Try.prog 6 #[.slice AZ zs.length kz, .int .i64 x] w fun e w' => e = .returned (.bool true) ∧ Rel w w' := by
  have HR := Lib.hid hr
  have HH := Lib.hid H
  have HZ := Lib.hid hZ
  have HAw := Lib.hid (fun (w : World) (hr : Rel w w) => awake16_any H w hr)
  have HMd := Lib.hid (fun (w : World) (hr : Rel w w) (hZ : PairsIn w AZ zs.length zs) => made16_any H zs AZ kz w hr hZ)
  obtain ⟨L0, hL0⟩ : ∃ l, madeL zs = l := ⟨_, rfl⟩
  obtain ⟨hm1, hm2, hm3⟩ := madeL_all zs
  rw [hL0] at hm1 hm2 hm3 HMd
  obtain ⟨n, hn⟩ : ∃ n, L0.length = n := ⟨_, rfl⟩
  rw [hn] at hm1 hm2
  obtain ⟨N, hN⟩ : ∃ n, zs.length = n := ⟨_, rfl⟩
  rw [hN] at HMd HZ ⊢
  have HLn := Lib.hid hn
  obtain ⟨K, hK⟩ : ∃ k, pk x 50 = k := ⟨_, rfl⟩
  have hKb := pk_bd x 50 (by omega)
  rw [hK] at hKb
  have hKi : i64 K := in16 (by omega) (by omega)
  have HPk := Lib.hid (fun (w : World) => pk16_as x 50 K (Lib.hid hK) hx (by omega) (by omega) w)
  obtain ⟨P, hP⟩ : ∃ p, (prioH L0 K).getD 0 = p := ⟨_, rfl⟩
  obtain ⟨b, hb⟩ : ∃ b, hasH L0 K = b := ⟨_, rfl⟩
  obtain ⟨L1, hL1⟩ : ∃ l, remH L0 K = l := ⟨_, rfl⟩
  obtain ⟨n1, hn1⟩ : ∃ n, L1.length = n := ⟨_, rfl⟩
  have HLm := Lib.hid hn1
  have hs1 : Srt L1 := by rw [← hL1]; exact rem_srt hm3 K
  have hb1 : hasH L1 K = false := by rw [← hL1]; exact rem_has L0 K
  have hp1 : (prioH L1 K).getD 0 = 0 := by rw [prio_none.2 hb1]; rfl
  have HIt := Lib.hid (fun (z : It) (hz : z ∈ L1) => show prioH L1 z.1 = some z.2 ∧ hasH L1 z.1 = true ∧ z.1 ≠ K ∧ z ∈ L0 from by
    refine ⟨(prio_some hs1).2 hz, has_iff.2 ⟨z, hz, rfl⟩, ?_, ?_⟩
    · rw [← hL1] at hz; exact (rem_mem.1 hz).2
    · rw [← hL1] at hz; exact (rem_mem.1 hz).1)
  have hcnt : (n : Int) - (if b then 1 else 0) = (n1 : Int) := by
    rw [← hn1, ← hL1, ← hn]
    cases b with
    | false => rw [rem_none hb]; simp
    | true =>
      obtain ⟨p, hz, _⟩ := has_item hm3 hb
      have := rem_len hm3 hz
      simp only [if_pos rfl] at this ⊢
      show (L0.length : Int) - 1 = _
      omega
  have HCo := Lib.hid (fun (w : World) => count16 b w)
  obtain ⟨cn, hcn⟩ : ∃ z : Int, (if b then 1 else 0) = z := ⟨_, rfl⟩
  rw [hcn] at HCo hcnt
  have k4 : ((n : Int) - cn) = (n1 : Int) := hcnt
  have hback : b = true → (K, P) ∈ L0 ∧ pushE 1000 L1 K = 0 ∧ pushL 1000 L1 K P = L0 := fun h => by
    subst h
    obtain ⟨p, hz, e⟩ := has_item hm3 hb
    rw [e] at hP
    have hP : p = P := hP
    subst hP
    have hl := rem_len hm3 hz
    have e0 : pushE 1000 L1 K = 0 := by
      unfold pushE
      rw [hb1]
      rw [← hL1]
      have : ¬ ((1000 : Int) ≤ ((remH L0 K).length : Int)) := by
        have : (remH L0 K).length + 1 = L0.length := hl
        omega
      rw [if_neg (by simp), if_neg this]
    refine ⟨hz, e0, ?_⟩
    unfold pushL
    rw [if_pos e0, ← hL1]
    exact ins_rem hm3 hz
  have HBk := Lib.hid hback
  have HNo := Lib.hid (fun (h : b = false) => show L1 = L0 from by rw [← hL1]; exact rem_none (by rw [hb, h]))
  have HPr := Lib.hid (fun (w1 w2 : World) (S : Nat → Prop) (v : Value) (h : Hq HP w1 w2 v S 1000 L0) => hprio16 H h hKi hP hb)
  have HRm := Lib.hid (fun (w1 w2 : World) (S : Nat → Prop) (v : Value) (h : Hq HP w1 w2 v S 1000 L0) => hrem16 H h hKi hb hL1)
  have HPs := Lib.hid (fun (w1 w2 : World) (S : Nat → Prop) (v : Value) (h : Hq HP w1 w2 v S 1000 L1) => hprio16 H h hKi hp1 hb1)
  have k5 : wrap64 (n1 : Int) = (n1 : Int) := by
    have : n1 ≤ 30 := by rw [← hn1, ← hL1]; exact Nat.le_trans (List.length_filter_le _ _) (by omega)
    unfold wrap64; omega
  have k1 : ((n1 : Int) != (n1 : Int)) = false := by simp
  have k2 : (b != b) = false := by simp
  have k3 : ((0 : Int) != (0 : Int)) = false := by simp
  clear H hr hx hZ hL0 hm1 hm2 hm3 hn hN hK hKb hP hb hL1 hn1 hs1 hb1 hp1 hcn hcnt hback
  go_enter Try.func6, Try.ntmps6
  go_upto_region 2 with (go_at_call 9; (with_reducible refine (HAw.out w HR.out).mono ?_); rintro e w1 ⟨rfl, h1⟩; have R1 := Lib.hid h1; clear h1)
  go_upto_region 3 with (go_at_call 28; (with_reducible refine (HMd.out w1 R1.out.self (HZ.out.rel16 R1.out)).mono ?_); rintro e w2 ⟨g0, S0, rfl, hM⟩)
  have h2 := Lib.hid (show Hq HP w w2 (.pointer (some ⟨g0, 0, none⟩)) S0 1000 L0 from ⟨hM.out.hp, R1.out.trans hM.out.rel, fun k hk => Nat.le_trans R1.out.size (hM.out.new k hk)⟩)
  obtain ⟨v, hv⟩ : ∃ v, Value.pointer (some ⟨g0, 0, none⟩) = v := ⟨_, rfl⟩
  rw [hv] at h2
  try rw [hv]
  have HFi := Lib.hid (HH.out.fit h2.out.hp)
  clear hv hM HMd HAw R1
  go_upto_region 4 with (go_at_call 27; (with_reducible refine (hall16 HH.out h2.out HLn.out).mono ?_); rintro e w3 ⟨A0, c0, rfl, hRo, HC0, h3⟩)
  have h3' := Lib.hid (Hq.to HH.out h2.out h3.out)
  go_upto_region 5 with (go_at_call 10; (with_reducible refine (HPk.out w3).mono ?_); rintro e w3' ⟨rfl, rfl⟩)
  go_upto_region 6 with (go_at_call 21; (with_reducible refine (HPr.out w w3 S0 v h3'.out).mono ?_); rintro e w4 ⟨rfl, h4⟩)
  have h4' := Lib.hid (Hq.to HH.out h3'.out h4.out)
  have Ro4 := Lib.hid (hRo.out.rel h4.out)
  clear h2 h3 h3' h4 hRo HPk HPr
  go_upto_region 7 with (go_at_call 19; (with_reducible refine (HRm.out w w4 S0 v h4'.out).mono ?_); rintro e w5 ⟨S5, rfl, h5, s5⟩)
  have Ro5 := Lib.hid (Ro4.out.st s5.out)
  clear h4' Ro4 s5 HRm
  go_upto_region 8 with (go_at_call 27; (with_reducible refine (hall16 HH.out h5.out HLm.out).mono ?_); rintro e w6 ⟨A1, c1, rfl, hRo, hcc, h6⟩)
  have h6' := Lib.hid (Hq.to HH.out h5.out h6.out)
  have Ro6 := Lib.hid (Ro5.out.rel h6.out)
  obtain ⟨hc0, hc1⟩ := hcc.out
  unfold maxLen at hc1
  clear h5 h6 Ro5
  go_upto_region 9 with (go_at_call 21; (with_reducible refine (HPs.out w w6 S5 v h6'.out).mono ?_); rintro e w7 ⟨rfl, h7⟩)
  have h7' := Lib.hid (Hq.to HH.out h6'.out h7.out)
  have Ro7 := Lib.hid (Ro6.out.rel h7.out)
  have Rn7 := Lib.hid (hRo.out.rel h7.out)
  clear h6' Ro6 hRo h7 HPs
  go_upto_block 0 with (fail)
  go_cut [] (fun wx => Hid (Hq HP w wx v S5 1000 L1) ∧ Hid (Ro S5 wx A0 L0))
  case first =>
    go_wp2_with (fail)
    go_loopw [15] (fun i wr => ∃ j : Nat, j ≤ n1 ∧ i = .int .i64 (j : Int) ∧ Hid (Rel w7 wr)) (fun i _ => n1 - (RowKit.intOf i).toNat)
    case atStart => exact ⟨0, by omega, rfl, Lib.hid h7'.out.rel.self⟩
    case round =>
      obtain ⟨j, hj, rfl, HW⟩ := hrel
      by_cases hlt : j < n1
      rotate_left 1
      · obtain rfl : j = n1 := by omega
        go_wp2_with (fail)
        go_meet
        exact ⟨Lib.hid (Hq.to HH.out h7'.out HW.out), Lib.hid (Ro7.out.rel HW.out)⟩
      have hji : (j : Int) < (n1 : Int) := by omega
      have hji0 : (0 : Int) ≤ (j : Int) := by omega
      have hjL : j < L1.length := by rw [HLm.out]; exact hlt
      obtain ⟨g, off, rfl, hc⟩ := ro16_at (Rn7.out.rel HW.out) (by omega)
      obtain ⟨e0, e1⟩ := hc j hjL
      obtain ⟨⟨ek, ep⟩, hek⟩ : ∃ z, L1[j] = z := ⟨_, rfl⟩
      rw [hek] at e0 e1
      have hmem : (ek, ep) ∈ L1 := by rw [← hek]; exact List.getElem_mem _
      have h1 : Hq HP w wr v S5 1000 L1 := Hq.to HH.out h7'.out HW.out
      have hfit := HH.out.fit h1.hp _ hmem
      obtain ⟨i1, i2, i3, _⟩ := HIt.out _ hmem
      have HP1 := Lib.hid (hprio16 HH.out h1 (k := ek) (n := ep) (b := true) hfit.1 (by rw [show prioH L1 ek = some ep from i1]; rfl) i2)
      have i4 : (ek == K) = false := by simpa using i3
      have i5 : (ep != ep) = false := by simp
      replace e0 : wr.cell? ⟨g, off + j * 2, none⟩ = some (.int .i64 ek) := e0
      replace e1 : wr.cell? ⟨g, off + j * 2 + 1, none⟩ = some (.int .i64 ep) := e1
      clear hc hek hmem h1 hfit i1 i2 i3
      go_upto_region 13 with (go_at_call 21; (with_reducible refine (HP1.out).mono ?_); rintro e wq ⟨rfl, hq⟩)
      have e0' := (hq.out.2.cell (p := ⟨g, off + j * 2, none⟩) (blk_of_cell e0)).trans e0
      have e1' := (hq.out.2.cell (p := ⟨g, off + j * 2 + 1, none⟩) (blk_of_cell e1)).trans e1
      clear e0 e1
      go_wp2_with (fail)
      go_roundw
      case rel => exact ⟨j + 1, by omega, by go_num, Lib.hid (HW.out.trans hq.out)⟩
      case measure => simp [RowKit.intOf]; omega
  obtain ⟨h8, Ro8⟩ := hcut
  clear h7' Ro7 Rn7 hc0 hc1 hcc
  go_upto_region 17 with (go_at_call 29; (with_reducible refine (HCo.out _).mono ?_); rintro e w9 ⟨rfl, rfl⟩)
  go_cut [101] (fun q wx => q = .bool false ∧ ∃ S : Nat → Prop, Hid (Hq HP w wx v S 1000 L0) ∧ Hid (Ro S wx A0 L0))
  case first =>
    cases b with
    | false =>
      go_wp2_with (fail)
      go_meet
      exact ⟨rfl, S5, by rw [← (HNo.out (by simp))]; exact h8, Ro8⟩
    | true =>
      obtain ⟨i1, i2, i3⟩ := HBk.out rfl
      have hPi : i64 P := by
        have h := HFi.out (K, P) i1
        exact h.2
      have HPu := Lib.hid (hpush16 HH.out h8.out hKi hPi i2 i3)
      clear i1 i2 i3
      go_wp2_with (go_at_call 13; (with_reducible refine (HPu.out).mono ?_); rintro e w10 ⟨S10, rfl, h10, s10⟩)
      go_meet
      exact ⟨rfl, S10, h10, Lib.hid (Ro8.out.st s10.out)⟩
  obtain ⟨rfl, S, h11, Ro11⟩ := hcut
  clear h8 Ro8
  obtain ⟨hd0, hd1⟩ := HC0.out
  go_wp2_with (first
    | (go_at_call 27; (with_reducible refine (hall16 HH.out h11.out HLn.out).mono ?_); rintro e w12 ⟨A2, c2, rfl, Ro12, HC2, r12⟩; have h12 := Lib.hid (Hq.to HH.out h11.out r12.out); have RoA := Lib.hid Ro12.out.1; have RoB := Lib.hid (Ro11.out.rel r12.out).1)
    | (go_at_call 26; ((with_reducible refine (rsame16_yes L0 A2 A0 n c2 c0 HLn.out HC2.out.1 HC2.out.2 hd0 hd1 _ h12.out.rel.self RoA.out RoB.out).mono ?_); rintro e w13 ⟨rfl, r13⟩)))
  go_ret
  exact ⟨rfl, h12.out.rel.trans r13⟩
end Go.Proofs.Ytminmcledbfchaa
