/- The walk of FrameTells, over what the program's Right, Encode and Scan tell. -/
import Derived.Test.YtjbbfcomgglhiaaDoorFrameLawF
import Derived.Test.YtjbbfcomgglhiaaDoorFrameAwake
import Derived.Deep.RegionHeld3
namespace Go.Proofs.YtjbbfcomgglhiaaDoor
open Go.RowKit Go.Lib
set_option linter.unusedVariables false
set_option linter.unusedSimpArgs false

theorem renc_as (k : Int) (A : Option Addr) (cap : Nat) (xs : List Int) (m : Nat) (hm : xs.length = m) (t : ByteArray) (S : ByteArray) (n : Int) (hS : Hid (encT k xs t = S ∧ encE k xs t = n)) (hl : m ≤ 9223372036854775807) (ht : t.size ≤ 9223372036854775807) (w0 w : World) (hr : Rel w0 w) (hx : Hid (IntsAt w A xs)) :
    Calls Tryd.prog 12 #[.agg #[.int .i64 k, .slice A m cap, .string t]] w fun e w' => e = .returned (.tuple #[.string S, .int .i64 n]) ∧ Rel w0 w' := by
  subst hm
  have h := hS.out
  rw [← h.1, ← h.2]
  exact renc_any k A cap xs t hl ht w0 w hr hx
theorem rright_as (k : Int) (A : Option Addr) (cap : Nat) (xs : List Int) (m : Nat) (hm : xs.length = m) (t : ByteArray) (b : Bool) (hb : Hid (rtB k xs t = b)) (hl : m ≤ 9223372036854775807) (ht : t.size ≤ 9223372036854775807) (w0 w : World) (hr : Rel w0 w) (hx : Hid (IntsAt w A xs)) :
    Calls Tryd.prog 14 #[.agg #[.int .i64 k, .slice A m cap, .string t]] w fun e w' => e = .returned (.bool b) ∧ Rel w0 w' := by
  subst hm
  rw [← hb.out]
  exact rright_any k A cap xs t hl ht w0 w hr hx
/-- The two Encodes at a right record. -/
theorem enc_two (E : EncOk) {r : Int × List Int × ByteArray} (h : frRight (pure3 r)) (S : ByteArray) (hS : Hid (B (frEnc (pure3 r)) = S)) (A : Option Addr) (cap : Nat) (w0 w : World) (hr : Rel w0 w) (hx : Hid (IntsAt w A r.2.1)) :
    Calls Tryd.prog 11 #[.agg #[.int .i64 r.1, .slice A r.2.1.length cap, .string r.2.2]] w fun e w' => e = .returned (.tuple #[.string S, .int .i64 0]) ∧ Rel w0 w' := by
  rw [← hS.out]; exact enc_right E h A cap w0 w hr hx
theorem renc_two {r : Int × List Int × ByteArray} (h : frRight (pure3 r)) (S : ByteArray) (hS : Hid (B (frEnc (pure3 r)) = S)) (A : Option Addr) (cap : Nat) (w0 w : World) (hr : Rel w0 w) (hx : Hid (IntsAt w A r.2.1)) :
    Calls Tryd.prog 12 #[.agg #[.int .i64 r.1, .slice A r.2.1.length cap, .string r.2.2]] w fun e w' => e = .returned (.tuple #[.string S, .int .i64 0]) ∧ Rel w0 w' := by
  have h1 := h.2.2.1
  have h2 := h.2.2.2.2
  have h3 : r.2.2.data.toList.length = r.2.2.size := by simp
  have h4 : (pure3 r).2.2 = r.2.2.data.toList := rfl
  have h5 : (pure3 r).2.1 = r.2.1 := rfl
  rw [h4] at h2
  rw [h5] at h1
  refine (renc_any r.1 A cap r.2.1 r.2.2 (by omega) (by omega) w0 w hr hx).mono ?_
  rintro e w' ⟨he, hr'⟩
  have hb : rtB r.1 r.2.1 r.2.2 = true := rtB_iff.2 h
  exact ⟨he.of (by unfold encT; rw [if_pos hb]; exact hS.out) (by unfold encE; rw [if_pos hb]), hr'⟩
theorem tells_facts {x : ByteArray} {fs gs : List ((Int × List Int × ByteArray) × Option Addr × Nat)} {n m : Nat} {err err' : Int}
    (h : (err = 0 ∧ frScan x.data.toList = (recOf fs, n, true)) ∨ (err = 40 ∧ frScan x.data.toList = (recOf fs, n, false)))
    (h' : (err' = 0 ∧ frScan x.data.toList = (recOf gs, m, true)) ∨ (err' = 40 ∧ frScan x.data.toList = (recOf gs, m, false))) : m = n ∧ err' = err ∧ recOf fs = recOf gs := by
  rcases h with ⟨h1, h2⟩ | ⟨h1, h2⟩ <;> rcases h' with ⟨h3, h4⟩ | ⟨h3, h4⟩ <;> rw [h2] at h4
  · exact ⟨(congrArg (fun p => p.2.1) h4).symm, by rw [h1, h3], congrArg (fun p => p.1) h4⟩
  · exact absurd (congrArg (fun p => p.2.2) h4) (by simp)
  · exact absurd (congrArg (fun p => p.2.2) h4) (by simp)
  · exact ⟨(congrArg (fun p => p.2.1) h4).symm, by rw [h1, h3], congrArg (fun p => p.1) h4⟩
theorem five_cell {w : World} {g : Nat} {a b c d e : ByteArray} (h : Bk w g 9 #[.string a, .string b, .string c, .string d, .string e]) (j : Nat) (hj : j < 5) : w.cell? ((⟨g, 0, none⟩ : Addr).add j) = some (.string ([a, b, c, d, e][j]'hj)) := by
  rw [addr_at, h.cell]
  match j, hj with
  | 0, _ => rfl
  | 1, _ => rfl
  | 2, _ => rfl
  | 3, _ => rfl
  | 4, _ => rfl
set_option maxRecDepth 100000 in
set_option maxHeartbeats 4000000 in
theorem FrameTells_at (hA : AwakeOk) (hE : EncOk) (hS : ScanOk) (hRt : RightOk) (rk : Int) (ra : Option Addr) (rc : Nat) (rx : List Int) (rt : ByteArray) (hrx : rx.length ≤ 9223372036854775807) (hrt : rt.size ≤ 9223372036854775807)
    (A T : Option Addr) (ca ct : Nat) (zss : List (List Int)) (ss : List ByteArray) (hl : zss.length ≤ 9223372036854775807) (hl' : ss.length ≤ 9223372036854775807) (hz : Hid (∀ zs ∈ zss, zs.length ≤ 9223372036854775807 ∧ w64 zs)) (hss : Hid (∀ s ∈ ss, s.size ≤ 9223372036854775807))
    (s0 : ByteArray) (hs0 : s0.size ≤ 1048576) (at' : Int) (u0 : -9223372036854775808 ≤ at') (u1 : at' ≤ 9223372036854775807) (M : ByteArray) (hM : M.size ≤ 1048576) (w : World) (hr : Rel w w) (hrec : Hid (IntsAt w ra rx)) (hx : Hid (RowsAt w A zss)) (hy : Hid (StrsAt w T ss)) :
    Calls Tryd.prog 3 #[.agg #[.int .i64 rk, .slice ra rx.length rc, .string rt], .slice A zss.length ca, .slice T ss.length ct, .string s0, .int .i64 at', .string M] w fun e w' => e = .returned (.bool true) ∧ Below w.heap.size w w' := by
  have HA := Lib.hid hA
  have HE := Lib.hid hE
  have HS := Lib.hid hS
  have HRt := Lib.hid hRt
  have HR := Lib.hid (hr.alloc (.cells #[.int .i64 rk, .slice ra rx.length rc, .string rt] 24))
  have HR1 := Lib.hid HR.out.self
  have HB := Lib.hid (Bk.new w 24 #[.int .i64 rk, .slice ra rx.length rc, .string rt])
  have HI := Lib.hid (hrec.out.rel HR.out)
  have HX := Lib.hid (hx.out.rel HR.out)
  have HY := Lib.hid (hy.out.rel HR.out)
  obtain ⟨m, hm⟩ : ∃ m, rx.length = m := ⟨_, rfl⟩
  obtain ⟨S0, hS0⟩ : ∃ S, encT rk rx rt = S := ⟨_, rfl⟩
  obtain ⟨n0, hn0⟩ : ∃ S, encE rk rx rt = S := ⟨_, rfl⟩
  obtain ⟨b0, hb0⟩ : ∃ S, rtB rk rx rt = S := ⟨_, rfl⟩
  have HEN := Lib.hid (And.intro hS0 hn0)
  have HRB := Lib.hid hb0
  rw [hm] at hrx HR HR1 HB HI HX HY ⊢
  have k2 : (S0.toList != S0.toList) = false := by simp
  have k3 : (n0 != n0) = false := by simp
  clear hA hE hS hRt hr hrec hx hy hS0 hn0 hb0
  go_enter Tryd.func3, Tryd.ntmps3
  go_upto_region 4 with (first
    | (go_at_call 10; (with_reducible refine (awake_of HA.out _ _ HR1.out).mono ?_); rintro e w1 ⟨rfl, h1⟩; obtain ⟨⟨c0, c1, c2⟩, _⟩ := (HB.out.rel h1).three)
    | (go_at_call 11; (with_reducible refine (enc_as HE.out rk ra rc rx m hm rt S0 n0 HEN hrx hrt _ _ h1 (Lib.hid (HI.out.rel h1))).mono ?_); rintro e w2 ⟨rfl, h2⟩; obtain ⟨⟨d0, d1, d2⟩, _⟩ := (HB.out.rel h2).three)
    | (go_at_call 12; (with_reducible refine (renc_as rk ra rc rx m hm rt S0 n0 HEN hrx hrt _ _ h2 (Lib.hid (HI.out.rel h2))).mono ?_); rintro e w3 ⟨rfl, h3⟩))
  obtain ⟨⟨e0, e1, e2⟩, _⟩ := (HB.out.rel h3).three
  have HS3 := Lib.hid h3.self
  have HI3 := Lib.hid (HI.out.rel h3)
  have H3 := Lib.hid h3
  have HX3 := Lib.hid (HX.out.rel h3)
  have HY3 := Lib.hid (HY.out.rel h3)
  clear c0 c1 c2 d0 d1 d2 h1 h2
  go_wp2_with (fail)
  go_region_held3 (fun w' => w'.cell? ⟨w.heap.size, 0, none⟩ = some (.int .i64 rk) ∧ w'.cell? ⟨w.heap.size, 1, none⟩ = some (.slice ra m rc) ∧ w'.cell? ⟨w.heap.size, 2, none⟩ = some (.string rt))
    (first
      | go_keep
      | exact ⟨f0, f1, f2⟩)
    (first
      | (go_at_call 13; (with_reducible refine (right_as HRt.out rk ra rc rx m hm rt b0 HRB hrx hrt _ _ HS3.out.drew (Lib.hid (HI3.out.rel HS3.out.drew))).mono ?_); rintro e w4 ⟨rfl, h4⟩; obtain ⟨⟨f0, f1, f2⟩, _⟩ := (HB.out.rel (H3.out.trans h4)).three)
      | (go_at_call 14; (with_reducible refine (rright_as rk ra rc rx m hm rt b0 HRB hrx hrt _ _ HS3.out.drew (Lib.hid (HI3.out.rel HS3.out.drew))).mono ?_); rintro e w4 ⟨rfl, h4⟩; obtain ⟨⟨f0, f1, f2⟩, _⟩ := (HB.out.rel (H3.out.trans h4)).three)
      | (go_at_call 13; (with_reducible refine (right_as HRt.out rk ra rc rx m hm rt b0 HRB hrx hrt _ _ h4 (Lib.hid (HI3.out.rel h4))).mono ?_); rintro e w5 ⟨rfl, h5⟩; obtain ⟨⟨f0, f1, f2⟩, _⟩ := (HB.out.rel (H3.out.trans h5)).three)
      | (go_at_call 14; (with_reducible refine (rright_as rk ra rc rx m hm rt b0 HRB hrx hrt _ _ h4 (Lib.hid (HI3.out.rel h4))).mono ?_); rintro e w5 ⟨rfl, h5⟩; obtain ⟨⟨f0, f1, f2⟩, _⟩ := (HB.out.rel (H3.out.trans h5)).three))
  have H5 := Lib.hid (H3.out.trans h5)
  have HS5 := Lib.hid h5.self
  have HX5 := Lib.hid (HX3.out.rel h5)
  have HY5 := Lib.hid (HY3.out.rel h5)
  clear e0 e1 e2 f0 f1 f2 h4 h5
  go_upto_region 8 with (go_at_call 15; (with_reducible refine (records_any A T ca ct zss ss hl hl' hz hss _ _ HS5.out HX5 HY5).mono ?_); rintro e w6 ⟨es, D, cd, base, rfl, h6, hE6, hes⟩; have F := recs_facts hes; have HF := Lib.hid F.2; have f1 := F.1; clear F hes)
  obtain ⟨rs, hrs⟩ : ∃ rs, es.map (·.1) = rs := ⟨_, rfl⟩
  have hel : es.length = rs.length := by rw [← hrs, List.length_map]
  have hRA := hE6.recs rfl
  rw [hrs] at hRA
  have HRA := Lib.hid hRA
  have HRR := Lib.hid (show ∀ r ∈ rs, frRight (pure3 r) by
    intro r hr
    rw [← hrs] at hr
    obtain ⟨e, he, rfl⟩ := List.mem_map.1 hr
    exact HF.out.1 e he)
  have H56 := Lib.hid h6
  have HS6 := Lib.hid h6.self
  rw [hel] at f1 ⊢
  obtain ⟨w6', hw6⟩ : ∃ w', w' = w6 := ⟨_, rfl⟩
  subst hw6
  clear hRA hrs hE6 h6 hel HF
  go_wp2_with (fail)
  go_loopw [19, 20] (fun s i wr => ∃ (j : Nat) (S : ByteArray), j ≤ rs.length ∧ i = .int .i64 j ∧ s = .string S ∧ S.size ≤ 2466 * j ∧ Hid (S = B (frAll ((rs.take j).map pure3))) ∧ Rel w6' wr) (fun _ i _ => rs.length - (intOf i).toNat)
  case atStart => exact ⟨0, _, by omega, rfl, rfl, Nat.le_refl _, Lib.hid rfl, HS6.out⟩
  case round =>
    obtain ⟨j, S, hj, rfl, rfl, hS, HSS, hR2⟩ := hrel
    by_cases hlt : j < rs.length
    · obtain ⟨g, off, A', c, rfl, hb, g0, g1, g2, g3⟩ := (HRA.out.rel hR2) j hlt
      have HM := Lib.hid (all_snoc3 rs j hlt)
      have HX := Lib.hid g3
      have hq := HRR.out rs[j] (List.getElem_mem hlt)
      have z1 := enc_size hq
      have HQ := Lib.hid hq
      obtain ⟨S1, hS1⟩ : ∃ S1, B (frEnc (pure3 rs[j])) = S1 := ⟨_, rfl⟩
      rw [hS1] at z1
      have HS1 := Lib.hid hS1
      have hS2 := Lib.hid hR2.self
      have k4 : (S1.toList != S1.toList) = false := by simp
      clear g3 hq hS1
      go_wp2_with (first
        | (go_at_call 12; (with_reducible refine (renc_two HQ.out S1 HS1 A' c _ _ hS2.out HX).mono ?_); rintro e wn ⟨rfl, hn⟩; have q0 := (hn.2.cell (p := ⟨g, off + j * 3, none⟩) hb).trans g0; have q1 := (hn.2.cell (p := ⟨g, off + j * 3 + 1, none⟩) hb).trans g1; have q2 := (hn.2.cell (p := ⟨g, off + j * 3 + 2, none⟩) hb).trans g2)
        | (go_at_call 11; (with_reducible refine (enc_two HE.out HQ.out S1 HS1 A' c _ _ hn (Lib.hid (HX.out.rel hn))).mono ?_); rintro e wp ⟨rfl, hp⟩))
      go_roundw
      case rel => exact ⟨j + 1, _, by omega, by go_num, rfl, by rw [ByteArray.size_append]; omega, Lib.hid (by rw [HM.out, HSS.out, ← HS1.out, B_append]), hR2.trans hp⟩
      case measure => simp [intOf]; omega
    · obtain rfl : j = rs.length := by omega
      have zS : S.size ≤ 29592 := by omega
      have H26 := Lib.hid hR2
      obtain ⟨wo, hwo⟩ : ∃ wo, wo = wr := ⟨_, rfl⟩
      subst hwo
      have HSO := Lib.hid hR2.self
      obtain ⟨p, hp⟩ : ∃ p, pk at' ((S.size : Int) + 1) = p := ⟨_, rfl⟩
      obtain ⟨p0, p1⟩ := pk_bd at' ((S.size : Int) + 1) (by omega)
      rw [hp] at p0 p1
      have HP := Lib.hid hp
      clear hp hS HSS hlt hj f1 hR2
      go_upto_region 17 with (go_at_call 16; (with_reducible refine (pick_as at' ((S.size : Int) + 1) p HP u0 u1 (by omega) (by omega) _).mono ?_); rintro e w7 ⟨rfl, rfl⟩)
      obtain ⟨k, rfl⟩ : ∃ k : Nat, p = k := ⟨p.toNat, by omega⟩
      have hk : k ≤ S.size := by omega
      obtain ⟨P, E1⟩ : ∃ P, S.extract 0 k = P := ⟨_, rfl⟩
      obtain ⟨Q, E2⟩ : ∃ Q, P ++ M = Q := ⟨_, rfl⟩
      obtain ⟨R', E5⟩ : ∃ R, S.extract k S.size = R := ⟨_, rfl⟩
      obtain ⟨X3, E6⟩ : ∃ X, Q ++ R' = X := ⟨_, rfl⟩
      have zP : P.size ≤ 29592 := by rw [← E1, ByteArray.size_extract]; omega
      have zQ : Q.size ≤ 1078168 := by rw [← E2, ByteArray.size_append]; omega
      have zR' : R'.size ≤ 29592 := by rw [← E5, ByteArray.size_extract]; omega
      have zX3 : X3.size ≤ 1107760 := by rw [← E6, ByteArray.size_append]; omega
      obtain ⟨mm, hm⟩ : ∃ m : Nat, (if (S.size : Int) < (k : Int) + (M.size : Int) then (S.size : Int) else (k : Int) + (M.size : Int)) = (m : Int) := ⟨min S.size (k + M.size), by split <;> omega⟩
      have hmS : mm ≤ S.size := by split at hm <;> omega
      obtain ⟨R, E3⟩ : ∃ R, S.extract mm S.size = R := ⟨_, rfl⟩
      obtain ⟨X2, E4⟩ : ∃ X, Q ++ R = X := ⟨_, rfl⟩
      have zR : R.size ≤ 29592 := by rw [← E3, ByteArray.size_extract]; omega
      have zX2 : X2.size ≤ 1107760 := by rw [← E4, ByteArray.size_append]; omega
      have hk1 : (k : Int) ≤ (S.size : Int) := by omega
      have hm1 : (mm : Int) ≤ (S.size : Int) := by omega
      have c1 : ¬ 9223372036854775807 < P.size + M.size := by omega
      have c2 : ¬ 9223372036854775807 < Q.size + R.size := by omega
      have c3 : ¬ 9223372036854775807 < Q.size + R'.size := by omega
      have hw : IntKind.i64.wrap ((k : Int) + (M.size : Int)) = (k : Int) + (M.size : Int) := by rw [IntKind.wrap_i64]; omega
      have HX := Lib.hid (show ∀ x ∈ [s0, S, P, X2, X3], x.size ≤ 1107760 by
        intro x hx
        simp only [List.mem_cons, List.not_mem_nil, or_false] at hx
        rcases hx with rfl | rfl | rfl | rfl | rfl <;> omega)
      clear zP zQ zR zR' k2 k3
      go_wp2_with (fail)
      go_region_law (fail)
      go_wp2_with (fail)
      simp only [Act.put, List.getElem_toArray, List.getElem_cons_succ, List.getElem_cons_zero, List.setIfInBounds_toArray, List.set_cons_zero, List.set_cons_succ]
      have hB := (Bk.new wo 9 #[.string s0, .string S, .string P, .string X2, .string X3]).drew
      have hr4 := (HSO.out.alloc (.cells #[.string s0, .string S, .string P, .string X2, .string X3] 9)).drew
      obtain ⟨W4, hW4⟩ : ∃ W4, (wo.alloc (.cells #[.string s0, .string S, .string P, .string X2, .string X3] 9)).drew = W4 := ⟨_, rfl⟩
      rw [hW4] at hB hr4 ⊢
      have hcell := five_cell hB
      have hlt4 := hB.lt
      obtain ⟨a, ha⟩ : ∃ a : Addr, (⟨wo.heap.size, 0, none⟩ : Addr) = a := ⟨_, rfl⟩
      have hab : a.block < W4.heap.size := by rw [← ha]; exact hlt4
      rw [ha] at hcell ⊢
      have HC := Lib.hid hcell
      have HB4 := Lib.hid hab
      have HR4 := Lib.hid hr4
      clear hB hr4 hW4 hcell hlt4 hab ha E1 E2 E3 E4 E5 E6 c1 c2 c3 hw hm hm1 hk1
      go_loopw [131] (fun i wr => ∃ j : Nat, j ≤ 5 ∧ i = .int .i64 j ∧ Rel W4 wr) (fun i _ => 5 - (intOf i).toNat)
      case atStart => exact ⟨0, by omega, rfl, HR4.out.self⟩
      case round =>
        obtain ⟨j, hj, rfl, hR2⟩ := hrel
        by_cases hlt : j < 5
        · have hc := (hR2.2.cell (p := a.add j) (by rw [block_add]; exact HB4.out)).trans (HC.out j hlt)
          have zx := size_at HX.out j hlt
          obtain ⟨x, hx⟩ : ∃ x, [s0, S, P, X2, X3][j]'hlt = x := ⟨_, rfl⟩
          rw [hx] at hc zx
          have hS2 := Lib.hid hR2.self
          clear hx
          go_wp2_with (first
            | (go_at_call 17; (with_reducible refine (scan_of HS.out x (by omega) _ _ hS2.out).mono ?_); rintro e w5 ⟨fs, C, cf, n, bf, err, rfl, h5, hF5, hsc⟩; have HF5 := Lib.hid hF5; have HSC := Lib.hid hsc; clear hsc hF5)
            | (go_at_call 18; (with_reducible refine (rscan_any x (by omega) _ _ h5.self).mono ?_); rintro e w6 ⟨gs, G, cg, n', bg, err', rfl, h6, hG6, hsg⟩; obtain ⟨rfl, rfl, heq⟩ := tells_facts HSC.out hsg; obtain ⟨_, q2, _, q4⟩ := again_facts HSC.out; obtain ⟨_, _, _, q5⟩ := again_facts hsg; have HEQ := Lib.hid (decide_eq_true heq); have HNF := Lib.hid (fun e he => nums_len (q2 e he)); have HF6 := Lib.hid (HF5.out.rel h6); have HG6 := Lib.hid hG6; clear heq hsg hG6 q2)
            | (go_at_call 19; (with_reducible refine (same_bool fs gs fs.length gs.length (Lib.hid rfl) (Lib.hid rfl) true HEQ (by omega) (by omega) HNF.out _ _ h6.self HF6.out HG6.out).mono ?_); rintro e w7 ⟨rfl, h7⟩))
          go_roundw
          case rel => exact ⟨j + 1, by omega, by go_num, hR2.trans (h5.trans (h6.trans h7))⟩
          case measure => simp [intOf]; omega
        · obtain rfl : j = 5 := by omega
          go_wp2_with (fail)
          go_ret
          exact ⟨rfl, ((HR.out.trans (H5.out.trans (H56.out.trans (H26.out.trans (HR4.out.trans hR2))))).2)⟩
end Go.Proofs.YtjbbfcomgglhiaaDoor
