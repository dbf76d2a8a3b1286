/- The first calls whose answers are fixed, over what the program's Encode, Scan and Right tell. -/
import Derived.Test.YtjbbfcomgglhiaaDoorFrameLawB
namespace Go.Proofs.YtjbbfcomgglhiaaDoor
open Go.RowKit Go.Lib
set_option linter.unusedVariables false
set_option linter.unusedSimpArgs false

/-- What the program's Right is to tell. -/
def RightOk : Prop := ∀ (k : Int) (A : Option Addr) (cap : Nat) (xs : List Int) (t : ByteArray), xs.length ≤ 9223372036854775807 → t.size ≤ 9223372036854775807 → ∀ w0 w : World, Rel w0 w → Hid (IntsAt w A xs) →
    Calls Tryd.prog 13 #[.agg #[.int .i64 k, .slice A xs.length cap, .string t]] w fun e w' => e = .returned (.bool (rtB k xs t)) ∧ Rel w0 w'
theorem itoa_dig {n : Nat} (h : n < 10) : itoa (n : Int) = [UInt8.ofNat (48 + n)] := by rw [itoa_nonneg, decDigits_one h]
theorem body_a : frBody (3, [7, -1], [97]) = [51, 32, 55, 32, 45, 49, 58, 97] := by
  unfold frBody
  simp only [frNums]
  rw [show itoa (3 : Int) = [51] from itoa_dig (n := 3) (by omega), show itoa (7 : Int) = [55] from itoa_dig (n := 7) (by omega), show itoa (-1 : Int) = [45, 49] by
    have := itoa_neg 1 (by omega)
    rw [decDigits_one (by omega)] at this
    exact this]
  rfl
theorem right_a : frRight (3, [7, -1], [97]) := by
  refine ⟨by decide, by decide, by decide, fun n hn => ?_, by decide⟩
  simp only [List.mem_cons, List.not_mem_nil, or_false] at hn
  rcases hn with rfl | rfl <;> decide
theorem enc_a : ∃ x y, frEnc (3, [7, -1], [97]) = [0, 8, 51, 32, 55, 32, 45, 49, 58, 97, x, y] := by
  unfold frEnc frHead
  rw [body_a]
  exact ⟨_, _, rfl⟩
theorem scan_aa (x y : UInt8) (h : frEnc (3, [7, -1], [97]) = [0, 8, 51, 32, 55, 32, 45, 49, 58, 97, x, y]) :
    frScan ([0, 8, 51, 32, 55, 32, 45, 49, 58, 97, x, y] ++ [0, 8, 51, 32, 55, 32, 45, 49, 58, 97, x, y] ++ [0]) = ([(3, [7, -1], [97]), (3, [7, -1], [97])], 24, true) := by
  have hs : frScan [0] = ([], 0, true) := frScan_short (by show 1 < 0 + 4; omega)
  rw [← h, List.append_assoc, frScan_enc right_a, frScan_enc right_a, hs]
  simp only [frEnc_len, body_a]
  rfl
theorem scan_x : frScan [0, 1, 120, 97, 98] = ([], 0, false) := by
  refine frScan_bad (by show ¬ 5 < 1 + 4; omega) ?_
  refine frGood_none fun r hr he => ?_
  have hl := frEnc_len r
  have e5 : (List.take (frLn [0, 1, 120, 97, 98] + 4) [0, 1, 120, 97, 98] : List UInt8).length = 5 := rfl
  rw [he, e5] at hl
  have h1 : (frBody r).length = 1 := by omega
  unfold frBody at h1
  have h2 : 1 ≤ (itoa r.1).length := by
    unfold itoa
    split
    · simp
    · have := (dd_all r.1.toNat).2.2.2
      cases hd : decDigits r.1.toNat with
      | nil => rw [hd] at this; cases this
      | cons => simp
  simp only [List.length_append, List.length_cons] at h1
  omega
theorem aa_facts {x y : UInt8} (hxy : frEnc (3, [7, -1], [97]) = [0, 8, 51, 32, 55, 32, 45, 49, 58, 97, x, y]) {s : ByteArray} (hs : s.data.toList = [0, 8, 51, 32, 55, 32, 45, 49, 58, 97, x, y] ++ [0, 8, 51, 32, 55, 32, 45, 49, 58, 97, x, y] ++ [0]) {fs : List ((Int × List Int × ByteArray) × Option Addr × Nat)} {n : Nat} {err : Int}
    (h : (err = 0 ∧ frScan s.data.toList = (recOf fs, n, true)) ∨ (err = 40 ∧ frScan s.data.toList = (recOf fs, n, false))) : err = 0 ∧ n = 24 ∧ recOf fs = [(3, [7, -1], [97]), (3, [7, -1], [97])] := by
  rw [hs, scan_aa x y hxy] at h
  rcases h with ⟨h1, h2⟩ | ⟨_, h2⟩
  · have e1 := congrArg (fun p => p.1) h2
    have e2 := congrArg (fun p => p.2.1) h2
    exact ⟨h1, e2.symm, e1.symm⟩
  · have e3 : true = false := congrArg (fun p => p.2.2) h2
    cases e3
theorem x_facts {fs : List ((Int × List Int × ByteArray) × Option Addr × Nat)} {n : Nat} {err : Int}
    (h : (err = 0 ∧ frScan (⟨#[0, 1, 120, 97, 98]⟩ : ByteArray).data.toList = (recOf fs, n, true)) ∨ (err = 40 ∧ frScan (⟨#[0, 1, 120, 97, 98]⟩ : ByteArray).data.toList = (recOf fs, n, false))) : err = 40 ∧ n = 0 := by
  rw [show (⟨#[0, 1, 120, 97, 98]⟩ : ByteArray).data.toList = [0, 1, 120, 97, 98] from rfl, scan_x] at h
  rcases h with ⟨_, h2⟩ | ⟨h1, h2⟩
  · have e3 : false = true := congrArg (fun p => p.2.2) h2
    cases e3
  · exact ⟨h1, (congrArg (fun p => p.2.1) h2).symm⟩
/-- The second one's second number. -/
theorem aa_cell {w : World} {base : Nat} {C : Option Addr} {c : Nat} {fs : List ((Int × List Int × ByteArray) × Option Addr × Nat)} (h : ElsOwn w base (.slice C fs.length c) fs) (hr : recOf fs = [(3, [7, -1], [97]), (3, [7, -1], [97])]) :
    fs.length = 2 ∧ ∃ (g off : Nat) (a : Addr) (c' : Nat), C = some ⟨g, off, none⟩ ∧ w.cell? ⟨g, off + 1 * 3 + 1, none⟩ = some (.slice (some a) 2 c') ∧ w.cell? (a.add 1) = some (.int .i64 (-1)) ∧ g < w.heap.size ∧ a.block < w.heap.size := by
  have hl : fs.length = 2 := by rw [← rec_len fs, hr]; rfl
  refine ⟨hl, ?_⟩
  have hR := h.recs rfl
  obtain ⟨g, off, A', c', e, hg, _, h1, _, h3⟩ := hR 1 (by rw [List.length_map]; omega)
  have hx : pure3 ((fs.map (·.1))[1]'(by rw [List.length_map]; omega)) = (3, [7, -1], [97]) := by
    have : (recOf fs)[1]'(by rw [rec_len]; omega) = (3, [7, -1], [97]) := by simp only [hr]; rfl
    rw [← this]
    simp [recOf]
  have hn : ((fs.map (·.1))[1]'(by rw [List.length_map]; omega)).2.1 = [7, -1] := congrArg (fun p => p.2.1) hx
  rw [hn] at h1 h3
  obtain ⟨a, ea, ha, hc⟩ := h3 1 (by decide)
  subst ea
  exact ⟨g, off, a, c', e, h1, hc, hg, ha⟩
theorem enc_as (E : EncOk) (k : Int) (A : Option Addr) (cap : Nat) (xs : List Int) (m : Nat) (hm : xs.length = m) (t : ByteArray) (S : ByteArray) (n : Int) (hS : Hid (encT k xs t = S ∧ encE k xs t = n)) (hl : m ≤ 9223372036854775807) (ht : t.size ≤ 9223372036854775807) (w0 w : World) (hr : Rel w0 w) (hx : Hid (IntsAt w A xs)) :
    Calls Tryd.prog 11 #[.agg #[.int .i64 k, .slice A m cap, .string t]] w fun e w' => e = .returned (.tuple #[.string S, .int .i64 n]) ∧ Rel w0 w' := by
  subst hm
  have h := hS.out
  rw [← h.1, ← h.2]
  exact E k A cap xs t hl ht w0 w hr hx
theorem right_as (E : RightOk) (k : Int) (A : Option Addr) (cap : Nat) (xs : List Int) (m : Nat) (hm : xs.length = m) (t : ByteArray) (b : Bool) (hb : Hid (rtB k xs t = b)) (hl : m ≤ 9223372036854775807) (ht : t.size ≤ 9223372036854775807) (w0 w : World) (hr : Rel w0 w) (hx : Hid (IntsAt w A xs)) :
    Calls Tryd.prog 13 #[.agg #[.int .i64 k, .slice A m cap, .string t]] w fun e w' => e = .returned (.bool b) ∧ Rel w0 w' := by
  subst hm
  rw [← hb.out]
  exact E k A cap xs t hl ht w0 w hr hx
theorem IntsAt.nil (w : World) (A : Option Addr) : IntsAt w A [] := fun j hj => absurd hj (by simp)
theorem IntsAt.two {w : World} {g : Nat} {t : TypeId} (x y : Int) (h : Bk w g t #[.int .i64 x, .int .i64 y]) : IntsAt w (some ⟨g, 0, none⟩) [x, y] := by
  intro j hj
  refine ⟨_, rfl, h.lt, ?_⟩
  rw [show (⟨g, 0, none⟩ : Addr).add j = ⟨g, j, none⟩ by unfold Addr.add; split <;> simp_all, h.cell]
  match j, hj with
  | 0, _ => rfl
  | 1, _ => rfl
set_option maxRecDepth 100000 in
set_option maxHeartbeats 4000000 in
theorem awake_any (hE : EncOk) (hS : ScanOk) (hRt : RightOk) : AwakeOk := by
  intro w0 w hr
  obtain ⟨x, y, hxy⟩ := enc_a
  have HE := Lib.hid hE
  have HS := Lib.hid hS
  have HRt := Lib.hid hRt
  clear hE hS hRt
  have hrt : rtB 3 [7, -1] ⟨#[97]⟩ = true := rtB_iff.2 right_a
  have hS1 := Lib.hid (show encT 3 [7, -1] ⟨#[97]⟩ = (⟨#[0, 8, 51, 32, 55, 32, 45, 49, 58, 97, x, y]⟩ : ByteArray) ∧ encE 3 [7, -1] ⟨#[97]⟩ = 0 from ⟨by unfold encT; rw [if_pos hrt]; show B (frEnc (3, [7, -1], [97])) = _; rw [hxy]; rfl, by unfold encE; rw [if_pos hrt]⟩)
  have hS2 := Lib.hid (show encT 0 [] ⟨#[]⟩ = (⟨#[]⟩ : ByteArray) ∧ encE 0 [] ⟨#[]⟩ = 1 from ⟨rfl, rfl⟩)
  have HRB := Lib.hid hrt
  have HXY := Lib.hid hxy
  clear hxy hrt
  have z1 : (⟨#[97]⟩ : ByteArray).size ≤ 9223372036854775807 := by show 1 ≤ _; omega
  have z2 : (⟨#[]⟩ : ByteArray).size ≤ 9223372036854775807 := by show 0 ≤ _; omega
  have HSS := Lib.hid (show ((⟨#[0, 8, 51, 32, 55, 32, 45, 49, 58, 97, x, y]⟩ : ByteArray) ++ (⟨#[0, 8, 51, 32, 55, 32, 45, 49, 58, 97, x, y]⟩ : ByteArray) ++ (⟨#[0]⟩ : ByteArray)).data.toList = [0, 8, 51, 32, 55, 32, 45, 49, 58, 97, x, y] ++ [0, 8, 51, 32, 55, 32, 45, 49, 58, 97, x, y] ++ [0] by simp [ByteArray.data_append])
  have HXZ := Lib.hid (show (⟨#[0, 1, 120, 97, 98]⟩ : ByteArray).size ≤ 2000000 by show 5 ≤ 2000000; omega)
  have HSZ := Lib.hid (show ((⟨#[0, 8, 51, 32, 55, 32, 45, 49, 58, 97, x, y]⟩ : ByteArray) ++ (⟨#[0, 8, 51, 32, 55, 32, 45, 49, 58, 97, x, y]⟩ : ByteArray) ++ (⟨#[0]⟩ : ByteArray)).size ≤ 2000000 by rw [ByteArray.size_append, ByteArray.size_append]; show 12 + 12 + 1 ≤ 2000000; omega)
  have HR := Lib.hid hr
  go_enter Tryd.func10, Tryd.ntmps10
  go_upto_region 2 with (fail)
  have K0 := (Bk.new w 3 #[.int .i64 7, .int .i64 (-1)]).alloc (.cells #[.int .i64 3, .slice (some ⟨w.heap.size, 0, none⟩) 2 2, .string ⟨#[97]⟩] 24)
  have K1 := Bk.new (w.alloc (.cells #[.int .i64 7, .int .i64 (-1)] 3)) 24 #[.int .i64 3, .slice (some ⟨w.heap.size, 0, none⟩) 2 2, .string ⟨#[97]⟩]
  rw [show (w.alloc (.cells #[.int .i64 7, .int .i64 (-1)] 3)).heap.size = w.heap.size + 1 by simp] at K1
  have RW := (HR.out.alloc (.cells #[.int .i64 7, .int .i64 (-1)] 3)).alloc (.cells #[.int .i64 3, .slice (some ⟨w.heap.size, 0, none⟩) 2 2, .string ⟨#[97]⟩] 24)
  generalize (w.alloc (.cells #[.int .i64 7, .int .i64 (-1)] 3)).alloc (.cells #[.int .i64 3, .slice (some ⟨w.heap.size, 0, none⟩) 2 2, .string ⟨#[97]⟩] 24) = W2 at K0 K1 RW ⊢
  have HK0 := Lib.hid K0
  have HK1 := Lib.hid K1
  obtain ⟨⟨c0, c1, c2⟩, _⟩ := K1.three
  have HS2 := Lib.hid RW.self
  clear K0 K1
  go_upto_region 6 with (first
    | (go_at_call 11; (with_reducible refine (enc_as HE.out 3 (some ⟨w.heap.size, 0, none⟩) 2 [7, -1] 2 rfl ⟨#[97]⟩ _ _ hS1 (by omega) z1 _ _ HS2.out (Lib.hid (IntsAt.two 7 (-1) HK0.out))).mono ?_); rintro e w3 ⟨rfl, h3⟩)
    | (go_at_call 11; (with_reducible refine (enc_as HE.out 0 none 0 [] 0 rfl ⟨#[]⟩ _ _ hS2 (by omega) z2 _ _ h3 (Lib.hid (IntsAt.nil _ _))).mono ?_); rintro e w4 ⟨rfl, h4⟩)
    | (go_at_call 17; (with_reducible refine (scan_of HS.out (⟨#[0, 1, 120, 97, 98]⟩ : ByteArray) HXZ.out _ _ h5.self).mono ?_); rintro e w6 ⟨gs, C6, c6, n6, b6, err6, rfl, h6, hF6, hsc6⟩; obtain ⟨rfl, rfl⟩ := x_facts hsc6; clear hsc6 hF6)
    | (go_at_call 17; (with_reducible refine (scan_of HS.out _ HSZ.out _ _ h4).mono ?_); rintro e w5 ⟨fs, C, cf, n, bf, err, rfl, h5, hF5, hsc⟩; obtain ⟨rfl, rfl, hre⟩ := aa_facts HXY.out HSS.out hsc; have HRE := Lib.hid hre; have HF5 := Lib.hid hF5; clear hsc hF5 hre))
  obtain ⟨q1, g, off, a, c', rfl, q2, q3, q4, q5⟩ := aa_cell (HF5.out.rel h6) HRE.out
  have hW6 := h5.trans h6
  obtain ⟨⟨d0, d1, d2⟩, _⟩ := (HK1.out.rel hW6).three
  have Q2 := Lib.hid q2
  have Q3 := Lib.hid q3
  have HW6 := Lib.hid hW6
  have x1 : (⟨#[0, 8, 51, 32, 55, 32, 45, 49, 58, 97, x, y]⟩ : ByteArray).extract 2 10 = ⟨#[51, 32, 55, 32, 45, 49, 58, 97]⟩ := rfl
  have x2 : (⟨#[0, 8, 51, 32, 55, 32, 45, 49, 58, 97, x, y]⟩ : ByteArray).extract 0 2 = ⟨#[0, 8]⟩ := rfl
  clear c0 c1 c2 q2 q3 hW6
  go_wp2_with (go_at_call 13; (with_reducible refine (right_as HRt.out 3 (some ⟨w.heap.size, 0, none⟩) 2 [7, -1] 2 rfl ⟨#[97]⟩ true HRB (by omega) z1 _ _ HW6.out.self (Lib.hid (IntsAt.two 7 (-1) (HK0.out.rel HW6.out)))).mono ?_); rintro e w7 ⟨rfl, h7⟩; have q2 : w7.cell? ⟨g, off + 3 + 1, none⟩ = some (.slice (some a) 2 c') := (h7.2.cell (p := ⟨g, off + 3 + 1, none⟩) q4).trans Q2.out; have q3 : w7.cell? ⟨a.block, a.off + 1, none⟩ = some (.int .i64 (-1)) := (h7.2.cell (p := a.add 1) (by rw [block_add]; exact q5)).trans Q3.out)
  go_ret
  exact ⟨rfl, (RW.trans HW6.out).trans h7⟩
end Go.Proofs.YtjbbfcomgglhiaaDoor
