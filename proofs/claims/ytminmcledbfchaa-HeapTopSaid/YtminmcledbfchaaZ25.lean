/- Layer 16: a change to what it is changes nothing; what Top tells, Pop takes (HeapTop). -/
import Derived.Test.YtminmcledbfchaaZL
import Derived.Test.YtminmcledbfchaaZ00
import Derived.Test.YtminmcledbfchaaZ01
import Derived.Test.YtminmcledbfchaaZ06
import Derived.Test.YtminmcledbfchaaZ08
import Derived.Test.YtminmcledbfchaaZ09
import Derived.Test.YtminmcledbfchaaZ11
import Derived.Test.YtminmcledbfchaaZ13
import Derived.Test.YtminmcledbfchaaZ24
namespace Go.Proofs.Ytminmcledbfchaa
open Go.RowKit Go.Lib
set_option linter.unusedVariables false
set_option linter.unusedSimpArgs false
/-- Of the top that is popped: it is no longer there, and it is as urgent as each. -/
theorem pop_gone {L : List It} : hasH (popH L) (itH (topH L)).1 = false := by
  cases h : topH L with
  | none =>
    rw [top_none.1 h]; rfl
  | some z =>
    have e : popH L = remH L z.1 := by unfold popH; rw [h]
    rw [e]; exact rem_has L z.1
theorem top_ge {L : List It} (hs : Srt L) {z : It} (hz : z ∈ L) : (topH L).isSome = true ∧ z.2 ≤ (itH (topH L)).2 := by
  cases h : topH L with
  | none => rw [top_none.1 h] at hz; exact absurd hz List.not_mem_nil
  | some y =>
    refine ⟨rfl, ?_⟩
    show z.2 ≤ y.2
    rcases top_urg hs h z hz with rfl | h1
    · omega
    · unfold urgH at h1; omega
set_option maxRecDepth 100000 in
set_option maxHeartbeats 16000000 in
theorem HeapTop_at {HP : HpT} (H : HeapOk HP) (zs : List (Int × Int)) (AZ : Option Addr) (kz : Nat) (x y : Int) (hx : i64 x) (hy : i64 y) (w : World) (hr : Rel w w) (hZ : PairsIn w AZ zs.length zs) :
    Calls Try.prog 7 #[.slice AZ zs.length kz, .int .i64 x, .int .i64 y] w fun e w' => e = .returned (.bool true) ∧ Rel w w' := by
  have HR := Lib.hid hr
  have HH := Lib.hid H
  have HZ := Lib.hid hZ
  have HAw := Lib.hid (fun (w : World) (hr : Rel w w) => awake16_any H w hr)
  have HMd := Lib.hid (fun (w : World) (hr : Rel w w) (hZ : PairsIn w AZ zs.length zs) => made16_any H zs AZ kz w hr hZ)
  obtain ⟨L0, hL0⟩ : ∃ l, madeL zs = l := ⟨_, rfl⟩
  obtain ⟨_, _, hm3⟩ := madeL_all zs
  rw [hL0] at hm3 HMd
  obtain ⟨N, hN⟩ : ∃ n, zs.length = n := ⟨_, rfl⟩
  rw [hN] at HMd HZ ⊢
  obtain ⟨K, hK⟩ : ∃ k, pk x 50 = k := ⟨_, rfl⟩
  have hKb := pk_bd x 50 (by omega)
  rw [hK] at hKb
  have hKi : i64 K := in16 (by omega) (by omega)
  have HPk := Lib.hid (fun (w : World) => pk16_as x 50 K (Lib.hid hK) hx (by omega) (by omega) w)
  obtain ⟨Y, hY⟩ : ∃ k, pk y 30 = k := ⟨_, rfl⟩
  have hYb := pk_bd y 30 (by omega)
  rw [hY] at hYb
  have hYi : i64 Y := in16 (by omega) (by omega)
  have HPy := Lib.hid (fun (w : World) => pk16_as y 30 Y (Lib.hid hY) hy (by omega) (by omega) w)
  obtain ⟨P, hP⟩ : ∃ p, (prioH L0 K).getD 0 = p := ⟨_, rfl⟩
  obtain ⟨b, hb⟩ : ∃ b, hasH L0 K = b := ⟨_, rfl⟩
  obtain ⟨tx, ty, ht⟩ : ∃ a b, itH (topH L0) = (a, b) := ⟨_, _, rfl⟩
  obtain ⟨o, ho⟩ : ∃ o, (topH L0).isSome = o := ⟨_, rfl⟩
  obtain ⟨L1, hL1⟩ : ∃ l, chgH L0 K Y = l := ⟨_, rfl⟩
  obtain ⟨ux, uy, hu⟩ : ∃ a b, itH (topH L1) = (a, b) := ⟨_, _, rfl⟩
  obtain ⟨o1, ho1⟩ : ∃ o, (topH L1).isSome = o := ⟨_, rfl⟩
  obtain ⟨L2, hL2⟩ : ∃ l, popH L1 = l := ⟨_, rfl⟩
  have hs1 : Srt L1 := by rw [← hL1]; exact chg_srt hm3 K Y
  have hg2 : hasH L2 ux = false := by
    have h := pop_gone (L := L1)
    rw [hu, hL2] at h
    exact h
  have hp2 : (prioH L2 ux).getD 0 = 0 := by rw [prio_none.2 hg2]; rfl
  have hfin : b = true → o1 = true ∧ Y ≤ uy := fun h => by
    have h1 : (K, Y) ∈ L1 := by rw [← hL1]; exact (chg_mem hm3).2 (.inl ⟨rfl, by rw [hb, h]⟩)
    have h2 := top_ge hs1 h1
    rw [hu, ho1] at h2
    exact h2
  have hcs : b = false ∨ (b = true ∧ o1 = true ∧ Y ≤ uy) := by
    cases hbb : b with
    | false => exact .inl rfl
    | true => exact .inr ⟨rfl, hfin hbb⟩
  have HCs := Lib.hid hcs
  have hux : (∀ z ∈ L1, i64 z.1 ∧ i64 z.2) → i64 ux := fun h => by
    cases hq : topH L1 with
    | none =>
      rw [hq] at hu
      have : (0 : Int) = ux := congrArg Prod.fst hu
      rw [← this]; exact in16 (by omega) (by omega)
    | some z =>
      have hz := h z (top_mem hq)
      rw [hq] at hu
      have : z.1 = ux := congrArg Prod.fst hu
      rw [← this]; exact hz.1
  have HUx := Lib.hid hux
  have HPr := Lib.hid (fun (w1 w2 : World) (S : Nat → Prop) (v : Value) (h : Hq HP w1 w2 v S 1000 L0) => hprio16 H h hKi hP hb)
  have HTp := Lib.hid (fun (w1 w2 : World) (S : Nat → Prop) (v : Value) (h : Hq HP w1 w2 v S 1000 L0) => htop16 H h ht ho)
  have hsm : b = true → chgH L0 K P = L0 := fun h => by
    obtain ⟨p, hz, e⟩ := has_item hm3 (by rw [hb, h])
    rw [e] at hP
    have hP : p = P := hP
    rw [← hP]; exact chg_same hm3 hz
  have hPi : (∀ z ∈ L0, i64 z.1 ∧ i64 z.2) → b = true → i64 P := fun hf h => by
    obtain ⟨p, hz, e⟩ := has_item hm3 (by rw [hb, h])
    rw [e] at hP
    have hP : p = P := hP
    rw [← hP]; exact (hf _ hz).2
  have HSm := Lib.hid (fun (w1 w2 : World) (S : Nat → Prop) (v : Value) (hbt : b = true) (h : Hq HP w1 w2 v S 1000 L0) => hchg16 H h hKi (hPi (H.fit h.hp) hbt) (b := true) (by rw [hb, hbt]) (hsm hbt))
  have HCh := Lib.hid (fun (w1 w2 : World) (S : Nat → Prop) (v : Value) (h : Hq HP w1 w2 v S 1000 L0) => hchg16 H h hKi hYi hb hL1)
  have HTq := Lib.hid (fun (w1 w2 : World) (S : Nat → Prop) (v : Value) (h : Hq HP w1 w2 v S 1000 L1) => htop16 H h hu ho1)
  have HPo := Lib.hid (fun (w1 w2 : World) (S : Nat → Prop) (v : Value) (h : Hq HP w1 w2 v S 1000 L1) => hpop16 H h hu ho1 hL2)
  have HPq := Lib.hid (fun (w1 w2 : World) (S : Nat → Prop) (v : Value) (hk : i64 ux) (h : Hq HP w1 w2 v S 1000 L2) => hprio16 H h hk hp2 hg2)
  have k1 : (b != b) = false := by simp
  have k2 : (o != o) = false := by simp
  have k3 : (o1 != o1) = false := by simp
  have k4 : (tx == tx) = true := by simp
  have k5 : (ty == ty) = true := by simp
  have k6 : (ux == ux) = true := by simp
  have k7 : (uy == uy) = true := by simp
  clear H hr hx hy hZ hL0 hm3 hN hK hKb hY hYb hP hb hL1 hs1 ht ho hu ho1 hL2 hg2 hp2 hfin hcs hux hsm hPi
  go_enter Try.func7, Try.ntmps7
  go_upto_region 2 with (go_at_call 9; (with_reducible refine (HAw.out w HR.out).mono ?_); rintro e w1 ⟨rfl, h1⟩; have R1 := Lib.hid h1; clear h1)
  go_upto_region 3 with (go_at_call 28; (with_reducible refine (HMd.out w1 R1.out.self (HZ.out.rel16 R1.out)).mono ?_); rintro e w2 ⟨g0, S0, rfl, hM⟩)
  have h2 := Lib.hid (show Hq HP w w2 (.pointer (some ⟨g0, 0, none⟩)) S0 1000 L0 from ⟨hM.out.hp, R1.out.trans hM.out.rel, fun k hk => Nat.le_trans R1.out.size (hM.out.new k hk)⟩)
  obtain ⟨v, hv⟩ : ∃ v, Value.pointer (some ⟨g0, 0, none⟩) = v := ⟨_, rfl⟩
  rw [hv] at h2
  try rw [hv]
  clear hv hM HMd HAw R1
  go_upto_region 4 with (go_at_call 10; (with_reducible refine (HPk.out w2).mono ?_); rintro e w2' ⟨rfl, rfl⟩)
  go_upto_region 5 with (go_at_call 21; (with_reducible refine (HPr.out w w2 S0 v h2.out).mono ?_); rintro e w3 ⟨rfl, r3⟩)
  have h3 := Lib.hid (Hq.to HH.out h2.out r3.out)
  clear h2 r3 HPk HPr
  go_upto_region 6 with (go_at_call 23; (with_reducible refine (HTp.out w w3 S0 v h3.out).mono ?_); rintro e w4 ⟨rfl, r4⟩)
  have h4 := Lib.hid (Hq.to HH.out h3.out r4.out)
  have AL := Lib.hid (h4.out.rel.self.alloc (.cells #[.int .i64 tx, .int .i64 ty] 36))
  have BX := Lib.hid (Bx.new HH.out h4.out 36 #[.int .i64 tx, .int .i64 ty])
  have h5 := Lib.hid (Hq.to HH.out h4.out AL.out)
  obtain ⟨w5, hw5⟩ : ∃ W, w4.alloc (.cells #[.int .i64 tx, .int .i64 ty] 36) = W := ⟨_, rfl⟩
  obtain ⟨g1, hg1⟩ : ∃ g, w4.heap.size = g := ⟨_, rfl⟩
  rw [hw5] at BX h5
  rw [hg1] at BX
  try rw [hw5]
  try rw [hg1]
  clear hw5 hg1 h3 h4 r4 AL
  go_cut [47] (fun q wx => q = .bool false ∧ ∃ S : Nat → Prop, Hid (Hq HP w wx v S 1000 L0) ∧ Hid (Bx S wx g1 36 #[.int .i64 tx, .int .i64 ty]))
  case first =>
    by_cases hbt : b = true
    · have HS1 := Lib.hid (HSm.out w w5 S0 v hbt h5.out)
      subst hbt
      go_wp2_with (go_at_call 17; (with_reducible refine (HS1.out).mono ?_); rintro e w6 ⟨S6, rfl, h6, s6⟩)
      go_meet
      exact ⟨rfl, S6, h6, Lib.hid (BX.out.st s6.out)⟩
    · obtain rfl : b = false := by simpa using hbt
      go_wp2_with (fail)
      go_meet
      exact ⟨rfl, S0, h5, BX⟩
  obtain ⟨rfl, S6, h6, BX6⟩ := hcut
  clear h5 BX HSm
  go_upto_region 9 with (go_at_call 23; (with_reducible refine (HTp.out w _ S6 v h6.out).mono ?_); rintro e w7 ⟨rfl, r7⟩)
  have h7 := Lib.hid (Hq.to HH.out h6.out r7.out)
  have BX7 := Lib.hid (BX6.out.rel r7.out)
  have AL := Lib.hid (h7.out.rel.self.alloc (.cells #[.int .i64 tx, .int .i64 ty] 36))
  have BY := Lib.hid (Bx.new HH.out h7.out 36 #[.int .i64 tx, .int .i64 ty])
  have BX8 := Lib.hid (BX7.out.rel AL.out)
  have h8 := Lib.hid (Hq.to HH.out h7.out AL.out)
  obtain ⟨w8, hw8⟩ : ∃ W, w7.alloc (.cells #[.int .i64 tx, .int .i64 ty] 36) = W := ⟨_, rfl⟩
  obtain ⟨g2, hg2⟩ : ∃ g, w7.heap.size = g := ⟨_, rfl⟩
  rw [hw8] at BX8 BY h8
  rw [hg2] at BY
  try rw [hw8]
  try rw [hg2]
  clear hw8 hg2 h6 h7 r7 AL BX6 BX7
  obtain ⟨⟨x0, x1⟩, _⟩ := BX8.out.1.two
  obtain ⟨⟨y0, y1⟩, _⟩ := BY.out.1.two
  go_upto_region 12 with (go_at_call 10; (with_reducible refine (HPy.out w8).mono ?_); rintro e w8' ⟨rfl, rfl⟩)
  clear x0 x1 y0 y1 BX8 BY k4 k5
  go_upto_region 13 with (go_at_call 17; (with_reducible refine (HCh.out w w8 S6 v h8.out).mono ?_); rintro e w9 ⟨S9, rfl, h9, _⟩)
  have hux := HUx.out (HH.out.fit h9.out.hp)
  go_upto_region 14 with (go_at_call 23; (with_reducible refine (HTq.out w w9 S9 v h9.out).mono ?_); rintro e wA ⟨rfl, rA⟩)
  have hA := Lib.hid (Hq.to HH.out h9.out rA.out)
  have AL := Lib.hid (hA.out.rel.self.alloc (.cells #[.int .i64 ux, .int .i64 uy] 36))
  have BX := Lib.hid (Bx.new HH.out hA.out 36 #[.int .i64 ux, .int .i64 uy])
  have hB := Lib.hid (Hq.to HH.out hA.out AL.out)
  obtain ⟨wB, hwB⟩ : ∃ W, wA.alloc (.cells #[.int .i64 ux, .int .i64 uy] 36) = W := ⟨_, rfl⟩
  obtain ⟨g3, hg3⟩ : ∃ g, wA.heap.size = g := ⟨_, rfl⟩
  rw [hwB] at BX hB
  rw [hg3] at BX
  try rw [hwB]
  try rw [hg3]
  clear hwB hg3 h8 h9 hA rA AL
  go_upto_region 15 with (go_at_call 15; (with_reducible refine (HPo.out w wB S9 v hB.out).mono ?_); rintro e wC ⟨SC, rfl, hC, sC⟩)
  have BXC := Lib.hid (BX.out.st sC.out)
  have AL := Lib.hid (hC.out.rel.self.alloc (.cells #[.int .i64 ux, .int .i64 uy] 36))
  have BY := Lib.hid (Bx.new HH.out hC.out 36 #[.int .i64 ux, .int .i64 uy])
  have BXD := Lib.hid (BXC.out.rel AL.out)
  have hD := Lib.hid (Hq.to HH.out hC.out AL.out)
  obtain ⟨wD, hwD⟩ : ∃ W, wC.alloc (.cells #[.int .i64 ux, .int .i64 uy] 36) = W := ⟨_, rfl⟩
  obtain ⟨g4, hg4⟩ : ∃ g, wC.heap.size = g := ⟨_, rfl⟩
  rw [hwD] at BXD BY hD
  rw [hg4] at BY
  try rw [hwD]
  try rw [hg4]
  clear hwD hg4 hB hC sC AL BX BXC
  obtain ⟨⟨x0, x1⟩, _⟩ := BXD.out.1.two
  obtain ⟨⟨y0, y1⟩, _⟩ := BY.out.1.two
  go_upto_region 17 with (fail)
  clear x0 x1
  go_upto_region 18 with (go_at_call 21; (with_reducible refine (HPq.out w wD SC v hux hD.out).mono ?_); rintro e wE ⟨rfl, rE⟩)
  clear y0 y1
  have BYE := Lib.hid (BY.out.rel rE.out)
  obtain ⟨⟨y0, y1⟩, _⟩ := BYE.out.1.two
  have HRE := Lib.hid (hD.out.rel.trans rE.out)
  rcases HCs.out with rfl | ⟨rfl, rfl, hge⟩
  · cases o1
    all_goals
      go_wp2_with (fail)
      go_ret
      exact ⟨rfl, HRE.out⟩
  · have hge' : decide (Y ≤ uy) = true := decide_eq_true hge
    go_wp2_with (fail)
    go_ret
    exact ⟨rfl, HRE.out⟩
end Go.Proofs.Ytminmcledbfchaa
