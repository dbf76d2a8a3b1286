/- The law's offers of raw numbers, in memory; Plain mathematics of layer 10: unlike strategies have unlike code. No program in this text; A drawn region walked by hand: what is taken first, under a condition that the region keeps; what alone may come up; The document's own readings of an expression: how many, how deep, which are the same; The document's own answers of layer 10: an operation; an expression's code; The document's own Word; The document's own fine: its arguments, one by one; The document's own Right and Print; The document's own answers of layer 10: which code may be run; RunSteps, over what the program is asked; A stack in memory, of the call's own: it grows at its end, and is cut there; The document's own machine of layer 11: take, put; The document's own answers of layer 9: which offers may be (Right); The document's own answers of layer 1 that layer 9 asks for; The document's own answers of layer 9: what an expression tells, kind by kind, over what its arguments tell; The document's own machine of layer 11: minus, two; The document's own answers of layer 9: a seller's price; what any expression tells; Eval and Cond; The document's own answers of layer 9: what any expression that may be tells; Eval and Cond; What is asked of the program, and the law's first calls; The document's own answers of layer 9: Eval and Cond. -/
import Derived.Test.YtcckemhelockaaaGreatDoorZL
import Derived.Test.YtcckemhelockaaaGreatDoorZ00
import Derived.Test.YtcckemhelockaaaGreatDoorZ01
import Derived.Test.YtcckemhelockaaaGreatDoorZ02
namespace Go.Proofs.YtcckemhelockaaaGreatDoor
open Go.RowKit Go.Lib
set_option linter.unusedVariables false
set_option linter.unusedSimpArgs false
theorem OffOwn.row9 {w : World} {base : Nat} {v : Value} {os : List Of} (h : OffOwn w base v os) : w.ownsRow base 53 2 v os.length (cellsO os) := h
theorem Rel.right3 {w w' : World} (h : Rel w w') : Rel w' w' := h.self
theorem OffOwn.arg {w : World} {base : Nat} {A : Option Addr} {c : Nat} {os : List Of} (h : OffOwn w base (.slice A os.length c) os) (hf : OffsFit os) : OffArg w A c os := by
  refine ⟨?_, ?_, hf, h.offs rfl⟩
  · rcases h.2 with ⟨h0, h1⟩ | ⟨g, cap, cur, hv, _, _, hc, _⟩
    · omega
    · injection hv with _ _ hv; omega
  · rcases h.2 with ⟨h0, h1⟩ | ⟨g, cap, cur, hv, _, _, _, hm, _⟩
    · injection h0 with _ _ h0; subst h0; exact Nat.zero_le _
    · injection hv with _ _ hv; omega
theorem add9_next (a : Addr) (n : Nat) : a.add (n + 1) = ⟨(a.add n).block, (a.add n).off + 1, none⟩ := by
  unfold Addr.add
  by_cases h : n = 0
  · subst h; simp
  · simp [h]; omega
theorem PairsIn.rel9 {w w' : World} {A : Option Addr} {n : Nat} {zs : List (Int × Int)} (h : PairsIn w A n zs) (hr : Rel w w') : PairsIn w' A n zs := ⟨h.1, h.2.1, h.2.2.1, h.2.2.2.rel hr⟩
theorem pairs9_at {w : World} {A : Option Addr} {n : Nat} {zs : List (Int × Int)} (h : PairsIn w A n zs) {w' : World} (hr : Rel w w') (j : Nat) (hj : j < zs.length) :
    ∃ (a : Addr) (x y : Int), A = some a ∧ w'.cell? (a.add (j * 2)) = some (.int .i64 x) ∧ w'.cell? ⟨(a.add (j * 2)).block, (a.add (j * 2)).off + 1, none⟩ = some (.int .i64 y) ∧ zs[j] = (x, y) ∧ i64 x ∧ i64 y := by
  obtain ⟨_, _, hb, hp⟩ := h
  obtain ⟨a, e, hl, c0, c1⟩ := (hp.rel hr) j hj
  have := hb zs[j] (List.getElem_mem hj)
  rw [add9_next] at c1
  exact ⟨a, zs[j].1, zs[j].2, e, c0, c1, rfl, this.1, this.2⟩
theorem offersL_step {zs : List (Int × Int)} {j : Nat} (hj : j < zs.length) {x y : Int} (hz : zs[j] = (x, y)) {out : List Of} (hl : out.length < 8) (b : Bool) (hb : hasS out (sellerL (pk x 60)) = b) :
    offersL (zs.drop j) out = offersL (zs.drop (j + 1)) (if b then out else out ++ [(sellerL (pk x 60), 1 + pk y 3000)]) := by
  rw [List.drop_eq_getElem_cons hj, hz, offersL, if_pos hl]
  show (if hasS out (sellerL (pk x 60)) then _ else _) = _
  rw [hb]
  cases b <;> rfl
theorem offersL_full {zs : List (Int × Int)} {out : List Of} (h : ¬ out.length < 8) : offersL zs out = out := by
  cases zs with
  | nil => rfl
  | cons z t => rw [offersL, if_neg h]
def hasTo (out : List Of) (s : List UInt8) (k : Nat) : Bool := (out.take k).any fun o => decide (o.1 = s)
theorem hasTo_step {out : List Of} {s : List UInt8} {k : Nat} (hk : k < out.length) : hasTo out s (k + 1) = (hasTo out s k || decide (out[k].1 = s)) := by
  unfold hasTo
  rw [List.take_succ_eq_append_getElem hk, List.any_append]; simp
theorem hasTo_full (out : List Of) (s : List UInt8) : hasTo out s out.length = hasS out s := by unfold hasTo hasS; rw [List.take_length]
def Names (out : List Of) : Prop := ∀ o ∈ out, o.1.length ≤ 12 ∧ 1 ≤ o.2 ∧ o.2 ≤ 3000
theorem names_snoc {out : List Of} (h : Names out) {s : List UInt8} {p : Int} (hs : s.length ≤ 12) (h1 : 1 ≤ p) (h2 : p ≤ 3000) : Names (out ++ [(s, p)]) := fun o ho => by
  rcases List.mem_append.1 ho with ho | ho
  · exact h o ho
  · obtain rfl : o = (s, p) := by simpa using ho
    exact ⟨hs, h1, h2⟩
theorem pk9_as (c n y : Int) (h : Hid (pk c n = y)) (hc : -9223372036854775808 ≤ c) (hc' : c ≤ 9223372036854775807) (hn : 0 < n) (hn' : n ≤ 9223372036854775807) (w : World) :
    Calls Tryz.prog 24 #[.int .i64 c, .int .i64 n] w fun e w' => e = .returned (.int .i64 y) ∧ w = w' := by
  rw [← h.out]
  by_cases h : c < 0
  all_goals
    go_enter Tryz.func24, Tryz.ntmps24
    go_wp2
    all_goals
      go_ret
      exact ⟨ret_int (by unfold pk; split <;> first | rfl | omega), rfl⟩
set_option maxRecDepth 100000 in
set_option maxHeartbeats 8000000 in
theorem offers_any (A : Option Addr) (c : Nat) (zs : List (Int × Int)) (w0 w : World) (hr : Rel w0 w) (hz : PairsIn w A zs.length zs) :
    Calls Tryz.prog 12 #[.slice A zs.length c] w fun e w' => ∃ A2 c2, e = .returned (.slice A2 (offS zs).length c2) ∧ OffOwn w' w.heap.size (.slice A2 (offS zs).length c2) (offS zs) ∧ Rel w0 w' := by
  have HR := Lib.hid hr
  have HS := Lib.hid hr.self
  have HZ := Lib.hid hz
  have hzl : zs.length ≤ 9223372036854775807 := hz.2.1
  obtain ⟨i0, hi0, hz0, hz1, hz2⟩ := info_parts off_info
  clear hz hr
  go_enter Tryz.func12, Tryz.ntmps12
  go_upto_block 0 with (fail)
  go_cut [3] (fun v wx => ∃ A2 c2, v = .slice A2 (offS zs).length c2 ∧ OffOwn wx w.heap.size v (offS zs) ∧ Rel w wx)
  case first =>
    go_wp2_with (fail)
    go_loopw [3, 4] (fun v i wr => ∃ (j : Nat) (A2 : Option Addr) (c2 : Nat) (out : List Of), j ≤ zs.length ∧ out.length ≤ 8 ∧ i = .int .i64 (j : Int) ∧ v = .slice A2 out.length c2 ∧ OffOwn wr w.heap.size (.slice A2 out.length c2) out ∧ Hid (offersL (zs.drop j) out = offS zs) ∧ Hid (Names out) ∧ Rel w wr) (fun _ i _ => zs.length - (RowKit.intOf i).toNat)
    case atStart => exact ⟨0, none, 0, [], by omega, by simp, rfl, rfl, OffOwn.nil _ _, Lib.hid rfl, Lib.hid (fun o h => by cases h), HS.out⟩
    case round =>
      obtain ⟨j, A2, c2, out, hj, ho8, rfl, rfl, hO, HN, HF, hRw⟩ := hrel
      have HRw := Lib.hid hRw
      have HO := Lib.hid hO
      clear hO
      by_cases hlt : j < zs.length
      · by_cases h8 : out.length < 8
        · obtain ⟨a, x, y, rfl, c0, c1, hxy, hx, hy⟩ := pairs9_at HZ.out hRw j hlt
          have HXY := Lib.hid hxy
          have hsl : (sellerL (pk x 60)).length ≤ 12 := (name_parts (seller_name (pk x 60) (pk_bd x 60 (by omega)).1 (pk_bd x 60 (by omega)).2)).2.2.1
          have hSe := fun (w0 w : World) (hr : Rel w0 w) => seller_any x hx.1 hx.2 w0 w hr
          obtain ⟨s, hs⟩ : ∃ s, sellerL (pk x 60) = s := ⟨_, rfl⟩
          rw [hs] at hSe hsl
          obtain ⟨X, hX⟩ : ∃ X, B s = X := ⟨_, rfl⟩
          rw [hX] at hSe
          have HSe := Lib.hid hSe
          have HSs := Lib.hid hs
          have HX := Lib.hid hX
          clear hxy hSe hs hX
          go_upto_region 6 with (go_at_call 23; (with_reducible refine (HSe.out _ _ HRw.out.self).mono ?_); rintro e w1 ⟨rfl, r1⟩)
          have HR1 := Lib.hid r1
          have HRt := Lib.hid (HRw.out.trans r1)
          have HO1 := Lib.hid (HO.out.rel r1)
          have d1 := (r1.2.cell (p := ⟨(a.add (j * 2)).block, (a.add (j * 2)).off + 1, none⟩) (blk_of_cell c1)).trans c1
          clear c0 c1 r1 hRw
          go_wp2_with (fail)
          go_loopw [6, 7] (fun hv k wr => ∃ (q : Nat) (b : Bool), q ≤ out.length ∧ k = .int .i64 (q : Int) ∧ hv = .bool b ∧ Hid (hasTo out s q = b) ∧ Rel w1 wr) (fun _ k _ => out.length - (RowKit.intOf k).toNat)
          case atStart => exact ⟨0, false, by omega, rfl, rfl, Lib.hid rfl, HR1.out.right3⟩
          case round =>
            obtain ⟨q, b, hq, rfl, rfl, HQ, hRi⟩ := hrel
            have HRi := Lib.hid hRi
            by_cases hlt2 : q < out.length
            · have hqi : (q : Int) < (out.length : Int) := by omega
              cases b with
              | true =>
                have HX2 := Lib.hid (show hasTo out s (q + 1) = true by rw [hasTo_step hlt2, HQ.out]; rfl)
                clear hRi
                go_wp2_with (fail)
                go_roundw
                case rel => exact ⟨q + 1, true, by omega, by go_num, rfl, HX2, HRi.out⟩
                case measure => simp [RowKit.intOf]; omega
              | false =>
                obtain ⟨g, off, s', p', rfl, e0, e1, ho2⟩ := offs_at (HO1.out.offs rfl) hRi q hlt2
                obtain ⟨Y, hY⟩ : ∃ Y, B s' = Y := ⟨_, rfl⟩
                rw [hY] at e0
                have HY := Lib.hid hY
                have HO2 := Lib.hid ho2
                clear hY ho2 e1 hRi
                by_cases he : Y = X
                · have k1 := list_of.2 he
                  have HX2 := Lib.hid (show hasTo out s (q + 1) = true by
                    rw [hasTo_step hlt2, HQ.out, HO2.out]
                    have : s' = s := by rw [← B_list s', ← B_list s, HY.out, HX.out, he]
                    simp [this])
                  clear he
                  go_wp2_with (fail)
                  go_roundw
                  case rel => exact ⟨q + 1, true, by omega, by go_num, rfl, HX2, HRi.out⟩
                  case measure => simp [RowKit.intOf]; omega
                · have k1 := list_ne he
                  have HX2 := Lib.hid (show hasTo out s (q + 1) = false by
                    rw [hasTo_step hlt2, HQ.out, HO2.out]
                    have : ¬ s' = s := fun e => by subst e; exact he (HY.out.symm.trans HX.out)
                    simp [this])
                  clear he
                  go_wp2_with (fail)
                  go_roundw
                  case rel => exact ⟨q + 1, false, by omega, by go_num, rfl, HX2, HRi.out⟩
                  case measure => simp [RowKit.intOf]; omega
            · obtain rfl : q = out.length := by omega
              have HO3 := Lib.hid (HO1.out.rel hRi)
              have HSt := Lib.hid (offersL_step hlt HXY.out h8 b (by rw [HSs.out, ← hasTo_full]; exact HQ.out))
              have f1 := (hRi.2.cell (p := ⟨(a.add (j * 2)).block, (a.add (j * 2)).off + 1, none⟩) (blk_of_cell d1)).trans d1
              have HRf := Lib.hid (HRt.out.trans hRi)
              clear hRi d1
              cases b with
              | true =>
                have HN2 := Lib.hid (show offersL (zs.drop (j + 1)) out = offS zs by rw [← HN.out, HSt.out]; rfl)
                go_wp2_with (fail)
                go_roundw
                case rel => exact ⟨j + 1, A2, c2, out, by omega, ho8, by go_num, rfl, HO3.out, HN2, HF, HRf.out⟩
                case measure => simp [RowKit.intOf]; omega
              | false =>
                have hp0 := pk_bd y 3000 (by omega)
                obtain ⟨P, hP⟩ : ∃ P, pk y 3000 = P := ⟨_, rfl⟩
                rw [hP] at hp0
                have HP := Lib.hid hP
                have HN2 := Lib.hid (show offersL (zs.drop (j + 1)) (out ++ [(s, 1 + P)]) = offS zs by rw [← HN.out, HSt.out, HSs.out, hP]; rfl)
                have HF2 := Lib.hid (names_snoc HF.out hsl (show 1 ≤ 1 + P by omega) (by omega))
                have HLn := Lib.hid (show (out ++ [(s, 1 + P)]).length = out.length + 1 by simp)
                obtain ⟨hP0, hP1⟩ := hp0
                have y0 := hy.1
                have y1 := hy.2
                clear hP
                have hsz := HRf.out.size
                rw [← HX.out] at *
                go_wp2_with (first
                  | (go_at_call 24; (with_reducible refine (pk9_as y 3000 P HP y0 y1 (by omega) (by omega) _).mono ?_); rintro e w2 ⟨rfl, rfl⟩)
                  | (at_builtin; (refine wpList_append_lies _ rfl _ _ 24 rfl w.heap.size 53 i0 (.agg #[.string ⟨#[]⟩, .int .i64 0]) 2 24 Tryz.underlying24 hi0 hz0 hz1 hz2 rfl (by decide) _ out.length (cellsO out) rfl (HO3.out.row9.alloc _) ⟨wr.heap.size, 0, none⟩ 1 1 (cells2 (s, 1 + P)) rfl rfl (World.news_of_block (Bk.new wr 53 #[.string (B s), .int .i64 (1 + P)])) (cells2_one _) (by decide) (by unfold maxLen; omega) (by omega) (by simp; omega) _ rfl ?_); intro g cap w1 hown1 hgrow hat hlt1))
                have hE5 := OffOwn.more (o := (s, 1 + P)) hown1
                have hR6 : Rel w w1 := (HRf.out.alloc _).grown hgrow (fun k hk => (HO3.out.row9.lt k hk).1)
                go_roundw
                case rel => exact ⟨j + 1, some ⟨g, 0, none⟩, cap, out ++ [(s, 1 + P)], by omega, by rw [HLn.out]; omega, by go_num, by rw [HLn.out], by rw [HLn.out]; exact hE5, HN2, HF2, hR6⟩
                case measure => simp [RowKit.intOf]; omega
        · have HE := Lib.hid (show out = offS zs by rw [← HN.out, offersL_full h8])
          have h8i : ¬ (out.length : Int) < 8 := by omega
          go_wp2_with (fail)
          go_meet
          exact ⟨A2, c2, by rw [← HE.out], by rw [← HE.out]; exact HO.out, HRw.out⟩
      · obtain rfl : j = zs.length := by omega
        have HE := Lib.hid (show out = offS zs by have := HN.out; rw [List.drop_length] at this; exact this)
        go_wp2_with (fail)
        all_goals
          go_meet
          exact ⟨A2, c2, by rw [← HE.out], by rw [← HE.out]; exact HO.out, HRw.out⟩
  obtain ⟨A2, c2, rfl, hO, hRL⟩ := hcut
  go_wp2_with (fail)
  go_ret
  exact ⟨A2, c2, rfl, hO, HR.out.trans hRL⟩
end Go.Proofs.YtcckemhelockaaaGreatDoor

namespace Go.Proofs.YtcckemhelockaaaGreatDoor
open Go.Lib
set_option linter.unusedVariables false
set_option linter.unusedSimpArgs false
/-- What an operation leaves on a stack, less what it takes. -/
def wt (o : Int) : Int := if o = 1 ∨ o = 2 ∨ o = 3 ∨ o = 4 ∨ o = 10 then 1 else if o = 5 ∨ o = 6 then 0 else -1
def sumW : List In → Int
  | [] => 0
  | t :: r => wt t.1 + sumW r
/-- On no beginning is less than nothing left; behind what leads nowhere, something. -/
def PreW (base : Int) (l : List In) : Prop := ∀ t u, l = t ++ u → 0 ≤ base + sumW t ∧ ∀ t' z, t = t' ++ [z] → isTo z.1 = false → 1 ≤ base + sumW t
theorem PreW.mono {b b' : Int} {l : List In} (h : PreW b l) (hb : b ≤ b') : PreW b' l := fun t u e => by
  obtain ⟨h1, h2⟩ := h t u e
  exact ⟨by omega, fun t' z e' hz => by have := h2 t' z e' hz; omega⟩
theorem PreW.nil {b : Int} (h : 0 ≤ b) : PreW b [] := fun t u e => by
  obtain ⟨rfl, _⟩ := List.append_eq_nil_iff.1 e.symm
  exact ⟨by simpa [sumW] using h, fun t' z e' => by simp at e'⟩
theorem PreW.one {b : Int} {z : In} (h0 : 0 ≤ b) (h : 0 ≤ b + wt z.1) (h' : isTo z.1 = false → 1 ≤ b + wt z.1) : PreW b [z] := fun t u e => by
  cases t with
  | nil => exact ⟨by simpa [sumW] using h0, fun t' y e' => by simp at e'⟩
  | cons y r =>
    injection e with e1 e2
    subst e1
    obtain ⟨rfl, _⟩ := List.append_eq_nil_iff.1 e2.symm
    refine ⟨by simpa [sumW] using h, fun t' y e' hz => ?_⟩
    have : y = z := by
      have := List.append_inj' (s₁ := []) (t₁ := [z]) (s₂ := t') (t₂ := [y]) e' rfl
      injection this.2 with this
      exact this.symm
    subst this
    simpa [sumW] using h' hz
end Go.Proofs.YtcckemhelockaaaGreatDoor

namespace Go.Proofs.YtcckemhelockaaaGreatDoor
open Go
set_option linter.unusedVariables false
set_option linter.unusedSimpArgs false
section
variable {P : Program} {ops : Array Oper} {Q : Exit → Act → World → Prop} {md : Region.Mode} {S : World → Prop}
theorem held_take {i : Nat} {oi : Oper} {v : Value} (d : Option Tmp) {fuel : Nat} {listed : Array Bool} {a : Act} {w : World} (hi : ops[i]? = some oi) (hd : oi.dst = d)
    (hs : Region.noSelect ops = true) (hf : Region.free md ops listed i = true) (hr : (Region.ready md ops listed).contains i = true)
    (hQ : ∀ c a w, Q (.panic c) (a.put d v) w → Q (.panic c) a w) (hy : YieldsIf P ops S oi v a) (hS : S w)
    (h : wpAnyH P md ops Q S fuel (listed.setIfInBounds i true) (a.put d v) w) : wpAnyH P md ops Q S (fuel + 1) listed a w := by
  subst hd
  exact wpAnyH_take hi hs hf hr hQ hy hS h
theorem held_one {j : Nat} {o : Oper} {fuel : Nat} {listed : Array Bool} {a : Act} {w : World} (hr : Region.ready md ops listed = [j]) (ho : ops[j]? = some o)
    (h : ∀ K' : Act → World → Prop, Shut (∀ a w, S w → (S w → wpAnyH P md ops Q S fuel (listed.setIfInBounds j true) a w) → K' a w) → if Region.wanted o (yielded ops a.tmps) = true then Oper.wp P o a w K' Q else K' (a.put o.dst undef) w) : wpAnyH P md ops Q S (fuel + 1) listed a w :=
  wpAnyH_ready hr (by simp) (AllReadyH.cons ho h AllReadyH.nil)
theorem held_two {j k : Nat} {o o' : Oper} {fuel : Nat} {listed : Array Bool} {a : Act} {w : World} (hr : Region.ready md ops listed = [j, k]) (ho : ops[j]? = some o) (ho' : ops[k]? = some o')
    (h : ∀ K' : Act → World → Prop, Shut (∀ a w, S w → (S w → wpAnyH P md ops Q S fuel (listed.setIfInBounds j true) a w) → K' a w) → if Region.wanted o (yielded ops a.tmps) = true then Oper.wp P o a w K' Q else K' (a.put o.dst undef) w)
    (h' : ∀ K' : Act → World → Prop, Shut (∀ a w, S w → (S w → wpAnyH P md ops Q S fuel (listed.setIfInBounds k true) a w) → K' a w) → if Region.wanted o' (yielded ops a.tmps) = true then Oper.wp P o' a w K' Q else K' (a.put o'.dst undef) w) : wpAnyH P md ops Q S (fuel + 1) listed a w :=
  wpAnyH_ready hr (by simp) (AllReadyH.cons ho h (AllReadyH.cons ho' h' AllReadyH.nil))
end
end Go.Proofs.YtcckemhelockaaaGreatDoor

namespace Go.Proofs.YtcckemhelockaaaGreatDoor
open Go.RowKit Go.Lib
set_option linter.unusedVariables false
set_option linter.unusedSimpArgs false
/-- An argument, in the world of a round. -/
theorem ExAt.arg {S : Nat → Prop} {w wr : World} {A : Option Addr} {es : List El} {l : List Ex} (hrow : RowE S w A es) (hsub : ∀ i (h : i < es.length) (h' : i < l.length), ExAt S w es[i] l[i]) (hl : es.length = l.length) (hr : Rel w wr) (j : Nat) (hj : j < l.length) :
    ∃ (g off : Nat) (k n : Int) (nm : List UInt8) (A' : Option Addr) (m c : Nat), A = some ⟨g, off, none⟩ ∧ wr.cell? ⟨g, off + j * 4, none⟩ = some (.int .i64 k) ∧ wr.cell? ⟨g, off + j * 4 + 1, none⟩ = some (.int .i64 n) ∧ wr.cell? ⟨g, off + j * 4 + 2, none⟩ = some (.string (B nm)) ∧ wr.cell? ⟨g, off + j * 4 + 3, none⟩ = some (.slice A' m c) ∧ ExAt S wr (k, n, nm, A', m, c) l[j] := by
  obtain ⟨g, off, e, hl2, _, h0, h1, h2, h3⟩ := hrow j (by omega)
  have hs := (hsub j (by omega) hj).rel hr
  generalize es[j] = e0 at *
  obtain ⟨k, n, nm, A', m, c⟩ := e0
  have hk : ∀ i, wr.cell? ⟨g, i, none⟩ = w.cell? ⟨g, i, none⟩ := fun i => hr.2.cell (p := ⟨g, i, none⟩) hl2
  exact ⟨g, off, k, n, nm, A', m, c, e, by rw [hk]; exact h0, by rw [hk]; exact h1, by rw [hk]; exact h2, by rw [hk]; exact h3, hs⟩
end Go.Proofs.YtcckemhelockaaaGreatDoor

namespace Go.Proofs.YtcckemhelockaaaGreatDoor
open Go.RowKit Go.Lib
set_option linter.unusedVariables false
set_option linter.unusedSimpArgs false
/-- An element of a row, whole. -/
def KidQ (W : World) (A' : Option Addr) (i : Nat) (el : El) : Prop := ∃ g off, A' = some ⟨g, off, none⟩ ∧ g < W.heap.size ∧ W.cell? ⟨g, off + i, none⟩ = some (.int .i64 el.1) ∧ W.cell? ⟨g, off + i + 1, none⟩ = some (.int .i64 el.2.1) ∧ W.cell? ⟨g, off + i + 2, none⟩ = some (.string (B el.2.2.1)) ∧ W.cell? ⟨g, off + i + 3, none⟩ = some (.slice el.2.2.2.1 el.2.2.2.2.1 el.2.2.2.2.2)
theorem KidQ.rel {W W' : World} {A' : Option Addr} {i : Nat} {el : El} (h : KidQ W A' i el) (hr : Rel W W') : KidQ W' A' i el := by
  obtain ⟨g, off, e, hl, h0, h1, h2, h3⟩ := h
  have hk : ∀ j, W'.cell? ⟨g, j, none⟩ = W.cell? ⟨g, j, none⟩ := fun j => hr.2.cell (p := ⟨g, j, none⟩) hl
  exact ⟨g, off, e, by have := hr.size; omega, by rw [hk]; exact h0, by rw [hk]; exact h1, by rw [hk]; exact h2, by rw [hk]; exact h3⟩
theorem KidQ.at0 {W : World} {g off : Nat} {el : El} (h : KidQ W (some ⟨g, off, none⟩) 0 el) : W.cell? ⟨g, off, none⟩ = some (.int .i64 el.1) ∧ W.cell? ⟨g, off + 1, none⟩ = some (.int .i64 el.2.1) ∧ W.cell? ⟨g, off + 2, none⟩ = some (.string (B el.2.2.1)) ∧ W.cell? ⟨g, off + 3, none⟩ = some (.slice el.2.2.2.1 el.2.2.2.2.1 el.2.2.2.2.2) := by
  obtain ⟨g', off', e, _, h0, h1, h2, h3⟩ := h
  injection e with e; injection e with e1 e2; subst e1; subst e2
  exact ⟨h0, h1, h2, h3⟩
theorem KidQ.at {W : World} {g off i : Nat} {el : El} (h : KidQ W (some ⟨g, off, none⟩) i el) : W.cell? ⟨g, off + i, none⟩ = some (.int .i64 el.1) ∧ W.cell? ⟨g, off + i + 1, none⟩ = some (.int .i64 el.2.1) ∧ W.cell? ⟨g, off + i + 2, none⟩ = some (.string (B el.2.2.1)) ∧ W.cell? ⟨g, off + i + 3, none⟩ = some (.slice el.2.2.2.1 el.2.2.2.2.1 el.2.2.2.2.2) := by
  obtain ⟨g', off', e, _, h0, h1, h2, h3⟩ := h
  injection e with e; injection e with e1 e2; subst e1; subst e2
  exact ⟨h0, h1, h2, h3⟩
theorem KidQ.is {W : World} {A' : Option Addr} {i : Nat} {el : El} (h : KidQ W A' i el) : ∃ g off, A' = some ⟨g, off, none⟩ := by
  obtain ⟨g, off, e, _⟩ := h; exact ⟨g, off, e⟩
end Go.Proofs.YtcckemhelockaaaGreatDoor

namespace Go.Proofs.YtcckemhelockaaaGreatDoor
open Go.RowKit Go.Lib
set_option linter.unusedVariables false
set_option linter.unusedSimpArgs false
theorem wordK_other {k : Int} (h : (k == 1) = false ∧ (k == 2) = false ∧ (k == 3) = false ∧ (k == 5) = false ∧ (k == 6) = false ∧ (k == 7) = false ∧ (k == 8) = false ∧ (k == 9) = false ∧ (k == 10) = false ∧ (k == 11) = false ∧ (k == 12) = false) : wordK k = [] := by
  simp only [beq_eq_false_iff_ne] at h
  unfold wordK
  obtain ⟨h1, h2, h3, h5, h6, h7, h8, h9, h10, h11, h12⟩ := h
  rw [if_neg h1, if_neg h2, if_neg h3, if_neg h5, if_neg h6, if_neg h7, if_neg h8, if_neg h9, if_neg h10, if_neg h11, if_neg h12]
end Go.Proofs.YtcckemhelockaaaGreatDoor

namespace Go.Proofs.YtcckemhelockaaaGreatDoor
open Go.RowKit Go.Lib
set_option linter.unusedVariables false
set_option linter.unusedSimpArgs false
theorem ExAt.kind {S : Nat → Prop} {w : World} {e : El} {x : Ex} (h : ExAt S w e x) : x.k = e.1 := by cases h; rfl
end Go.Proofs.YtcckemhelockaaaGreatDoor

namespace Go.Proofs.YtcckemhelockaaaGreatDoor
open Go.RowKit Go.Lib
set_option linter.unusedVariables false
set_option linter.unusedSimpArgs false
/-- What Print tells: its text, or none. -/
def prT (x : Ex) : List UInt8 := if rightX x then text x else []
def prE (x : Ex) : Int := if rightX x then 0 else 1
end Go.Proofs.YtcckemhelockaaaGreatDoor

namespace Go.Proofs.YtcckemhelockaaaGreatDoor
open Go.RowKit Go.Lib
set_option linter.unusedVariables false
set_option linter.unusedSimpArgs false
theorem code_bad {l : List In} {i : Nat} (hi : i < l.length) {t : In} (ht : l[i] = t) (h : inOk l.length i t = false) : codeOk l = false := by
  cases e : codeOk l
  · rfl
  · have := (codeOk_iff.1 e).2 i hi
    rw [ht, h] at this; cases this
theorem code_many {l : List In} (h : 5000 < l.length) : codeOk l = false := by
  cases e : codeOk l
  · rfl
  · have := (codeOk_iff.1 e).1; omega
theorem okTo_step {l : List In} {i : Nat} (hi : i < l.length) {t : In} (ht : l[i] = t) (h : okTo l i = true) (h1 : inOk l.length i t = true) : okTo l (i + 1) = true := by
  rw [okTo, List.getElem?_eq_getElem hi, h, ht]; exact h1
theorem code_full {l : List In} (h : l.length ≤ 5000) (h2 : okTo l l.length = true) : codeOk l = true := by
  unfold codeOk; rw [h2]; simp [h]
theorem ins_at {w wr : World} {A : Option Addr} {l : List In} (h : InsAt w A l) (hr : Rel w wr) (j : Nat) (hj : j < l.length) :
    ∃ (g off : Nat) (o n : Int) (nm : List UInt8), A = some ⟨g, off, none⟩ ∧ wr.cell? ⟨g, off + j * 3, none⟩ = some (.int .i64 o) ∧ wr.cell? ⟨g, off + j * 3 + 1, none⟩ = some (.int .i64 n) ∧ wr.cell? ⟨g, off + j * 3 + 2, none⟩ = some (.string (B nm)) ∧ l[j] = (o, n, nm) := by
  obtain ⟨g, off, e, _, h0, h1, h2⟩ := (h.rel hr) j hj
  exact ⟨g, off, l[j].1, l[j].2.1, l[j].2.2, e, h0, h1, h2, rfl⟩
theorem to_is {o : Int} (h : o = 9 ∨ o = 12 ∨ o = 13) (i len : Nat) : leastO i o = (i : Int) + 1 ∧ mostO len o = (len : Int) := by
  rcases h with rfl | rfl | rfl <;> exact ⟨rfl, rfl⟩
theorem inOk_eq (len i : Nat) (o n : Int) (nm : List UInt8) : inOk len i (o, n, nm) = (decide (1 ≤ o ∧ o ≤ 13) && decide (leastO i o ≤ n ∧ n ≤ mostO len o) && (if o = 4 then isName nm else decide (nm = []))) := rfl
end Go.Proofs.YtcckemhelockaaaGreatDoor

namespace Go.Proofs.YtcckemhelockaaaGreatDoor
open Go.RowKit Go.Lib
set_option linter.unusedVariables false
set_option linter.unusedSimpArgs false
/-- A call of Run, of slices whose lengths are spelled so. -/
theorem runl_at (H : RunsOk) (l : List In) (os : List Of) (v e : Int) (b : Bool) (hv : Hid (RV (runS os l) = .tuple #[.int .i64 v, .bool b, .int .i64 e])) (A A' : Option Addr) (c c' : Nat) (w0 w : World) (hr : Rel w0 w) (h : InsArg w A c l) (ho : OffArg w A' c' os) :
    Calls Tryz.prog 13 #[.slice A l.length c, .slice A' os.length c'] w fun r w' => r = .returned (.tuple #[.int .i64 v, .bool b, .int .i64 e]) ∧ Rel w0 w' := by
  rw [← hv.out]; exact H.1 A A' c c' l os w0 w hr h ho
end Go.Proofs.YtcckemhelockaaaGreatDoor

namespace Go.Proofs.YtcckemhelockaaaGreatDoor
open Go.RowKit Go.Lib
set_option linter.unusedVariables false
set_option linter.unusedSimpArgs false
def cellsC (c : Ce) : List Value := [.int .i64 (c.getD 0), .bool c.isSome]
def cellsS (S : List Ce) : List Value := S.flatMap cellsC
theorem cellsS_cons (c : Ce) (t : List Ce) : cellsS (c :: t) = cellsC c ++ cellsS t := rfl
theorem cellsS_snoc (S : List Ce) (c : Ce) : cellsS (S ++ [c]) = cellsS S ++ cellsC c := by simp [cellsS]
theorem cellsS_len (S : List Ce) : (cellsS S).length = S.length * 2 := by
  induction S with
  | nil => rfl
  | cons e t ih => rw [cellsS_cons, List.length_append, ih]; simp [cellsC]; omega
/-- A row of such cells (T: the cells' type). -/
def StkOwn (T : TypeId) (w : World) (base : Nat) (v : Value) (S : List Ce) : Prop := w.ownsRow base T 2 v S.length (cellsS S)
theorem StkOwn.row {T : TypeId} {w : World} {base : Nat} {v : Value} {S : List Ce} (h : StkOwn T w base v S) : w.ownsRow base T 2 v S.length (cellsS S) := h
theorem StkOwn.nil (T : TypeId) (w : World) (base : Nat) : StkOwn T w base (.slice none 0 0) [] := World.ownsRow_nil _ _ _ _
theorem StkOwn.rel {T : TypeId} {w w' : World} {base : Nat} {v : Value} {S : List Ce} (h : StkOwn T w base v S) (hr : Rel w w') : StkOwn T w' base v S := own_rel h hr
/-- The last one, read; and the row without it. -/
theorem StkOwn.top {T : TypeId} {w : World} {base : Nat} {v : Value} {S : List Ce} {c : Ce} (h : StkOwn T w base v (S ++ [c])) :
    ∃ g cap, v = .slice (some ⟨g, 0, none⟩) (S.length + 1) cap ∧ base ≤ g ∧ g < w.heap.size ∧ S.length + 1 ≤ cap ∧ w.cell? ⟨g, S.length * 2, none⟩ = some (.int .i64 (c.getD 0)) ∧ w.cell? ⟨g, S.length * 2 + 1, none⟩ = some (.bool c.isSome) ∧ StkOwn T w base (.slice (some ⟨g, 0, none⟩) S.length cap) S := by
  have hl : (S ++ [c]).length = S.length + 1 := by simp
  rcases h.2 with ⟨_, h0⟩ | ⟨g, cap, cur, hv, hb, hh, hnc, hcm, hcs, htake⟩
  · omega
  · rw [hl] at hv hnc htake
    have hget : ∀ j u, (cellsS (S ++ [c]))[j]? = some u → w.cell? ⟨g, j, none⟩ = some u := fun j u hu => by
      have := h.cells (g := g) (by rw [hv]; rfl) j u hu
      rwa [addr_at, Nat.zero_add] at this
    refine ⟨g, cap, hv, hb, Bk.lt (t := T) hh, hnc, hget _ _ ?_, hget _ _ ?_, ⟨cellsS_len S, .inr ⟨g, cap, cur, rfl, hb, hh, by omega, hcm, hcs, ?_⟩⟩⟩
    · rw [cellsS_snoc, List.getElem?_append_right (by rw [cellsS_len]; omega), cellsS_len, Nat.sub_self]; rfl
    · rw [cellsS_snoc, List.getElem?_append_right (by rw [cellsS_len]; omega), cellsS_len, show S.length * 2 + 1 - S.length * 2 = 1 by omega]; rfl
    · have e := congrArg (List.take (S.length * 2)) htake
      rw [List.take_take, cellsS_snoc, List.take_append_of_le_length (by rw [cellsS_len]; omega), List.take_of_length_le (l := cellsS S) (by rw [cellsS_len]; omega), show min (S.length * 2) ((S.length + 1) * 2) = S.length * 2 by omega] at e
      exact e
/-- The machine in block b: its stack, and what is wrong (M: the machine's type). -/
def Mc (T M : TypeId) (w : World) (C b : Nat) (s : Ms) : Prop := C ≤ b ∧ ∃ A c, Bk w b M #[.slice A s.1.length c, .int .i64 s.2] ∧ StkOwn T w C (.slice A s.1.length c) s.1
theorem Mc.lt {T M : TypeId} {w : World} {C b : Nat} {s : Ms} (h : Mc T M w C b s) : b < w.heap.size := by obtain ⟨_, A, c, h, _⟩ := h; exact h.lt
theorem Mc.rel {T M : TypeId} {w w' : World} {C b : Nat} {s : Ms} (h : Mc T M w C b s) (hr : Rel w w') : Mc T M w' C b s := by
  obtain ⟨hC, A, c, h1, h2⟩ := h
  exact ⟨hC, A, c, h1.rel hr, h2.rel hr⟩
theorem Mc.alloc {T M : TypeId} {w : World} {C b : Nat} {s : Ms} (h : Mc T M w C b s) (o : Obj) : Mc T M (w.alloc o) C b s := by
  obtain ⟨hC, A, c, h1, h2⟩ := h
  exact ⟨hC, A, c, h1.alloc o, h2.row.alloc o⟩
theorem Mc.drew {T M : TypeId} {w : World} {C b : Nat} {s : Ms} (h : Mc T M w C b s) : Mc T M w.drew C b s := by
  obtain ⟨hC, A, c, h1, h2⟩ := h
  exact ⟨hC, A, c, h1, h2⟩
theorem Mc.new {T M : TypeId} {w0 w : World} (hr : Rel w0 w) : Mc T M (w.alloc (.cells #[.slice none 0 0, .int .i64 0] M)) w0.heap.size w.heap.size ([], 0) :=
  ⟨hr.size, none, 0, Bk.new w _ _, StkOwn.nil _ _ _⟩
/-- Every block but the machine's, and but rows of its cells, stands as it stood. -/
def Kr (T : TypeId) (b : Nat) (w w' : World) : Prop := Lib.OthersKept T (some b) w w'
theorem Kr.refl (T : TypeId) (b : Nat) (w : World) : Kr T b w w := Lib.OthersKept.refl _ _ w
theorem Kr.trans {T : TypeId} {b : Nat} {w w' w'' : World} (h : Kr T b w w') (h' : Kr T b w' w'') : Kr T b w w'' := Lib.OthersKept.trans h h'
theorem Kr.alloc {T : TypeId} {b : Nat} {w w' : World} (h : Kr T b w w') (o : Obj) : Kr T b w (w'.alloc o) := Lib.OthersKept.alloc h o
theorem Kr.bk {T : TypeId} {b : Nat} {w w' : World} (h : Kr T b w w') {g : Nat} {t : TypeId} {cs : Array Value} (hb : Bk w g t cs) (hne : g ≠ b) (ht : t ≠ T) : Bk w' g t cs :=
  h g _ hb (fun e => hne (by injection e)) (fun c fz e => ht (by injection e))
theorem Kr.rel {T : TypeId} {b : Nat} {w w' : World} (hr : Rel w w') : Kr T b w w' := fun k o hk _ _ => (hr.2.block k (by
  rcases Nat.lt_or_ge k w.heap.size with h | h
  · exact h
  · rw [Array.getElem?_eq_none h] at hk; cases hk)).trans hk
theorem Kr.set {T : TypeId} {b : Nat} {w w' : World} (h : Kr T b w w') {p : Addr} (hp : p.block = b) (u : Value) : Kr T b w (w'.setCell p u) := Lib.OthersKept.setCell h p hp u
theorem Kr.row {T : TypeId} {b : Nat} {w : World} {base : Nat} {v : Value} {S : List Ce} (h : StkOwn T w base v S) {w' : World} (hg : w.grownBy w' v.ownBlock) : Kr T b w w' := fun k o hk hb ho => by
  refine (hg.block k ?_ ?_).trans hk
  · rcases Nat.lt_or_ge k w.heap.size with h | h
    · exact h
    · rw [Array.getElem?_eq_none h] at hk; cases hk
  · intro e
    rcases h.2 with ⟨rfl, _⟩ | ⟨g, cap, cur, rfl, _, hh, _⟩
    · cases e
    · have : k = g := by simpa [Value.ownBlock] using e
      subst this
      rw [hh] at hk
      injection hk with hk
      exact ho _ _ hk.symm
/-- Every block but the machine's stands as it stood. -/
def Kt (b : Nat) (w w' : World) : Prop := ∀ k o, w.heap[k]? = some o → k ≠ b → w'.heap[k]? = some o
theorem some_lt {w : World} {k : Nat} {o : Obj} (h : w.heap[k]? = some o) : k < w.heap.size := by
  rcases Nat.lt_or_ge k w.heap.size with h' | h'
  · exact h'
  · rw [Array.getElem?_eq_none h'] at h; cases h
theorem Kt.refl (b : Nat) (w : World) : Kt b w w := fun _ _ h _ => h
theorem Kt.trans {b : Nat} {w w' w'' : World} (h : Kt b w w') (h' : Kt b w' w'') : Kt b w w'' := fun k o hk hb => h' k o (h k o hk hb) hb
theorem Kt.alloc {b : Nat} {w w' : World} (h : Kt b w w') (o : Obj) : Kt b w (w'.alloc o) := fun k q hk hb => (Below.heap_alloc w' o k (some_lt (h k q hk hb))).trans (h k q hk hb)
theorem Kt.drew {b : Nat} {w w' : World} (h : Kt b w w') : Kt b w w'.drew := h
theorem Kt.rel {b : Nat} {w w' : World} (hr : Rel w w') : Kt b w w' := fun k o hk _ => (hr.2.block k (some_lt hk)).trans hk
theorem Kt.set {b : Nat} {w w' : World} (h : Kt b w w') {p : Addr} (hp : p.block = b) (u : Value) : Kt b w (w'.setCell p u) := fun k o hk hb => (Below.heap_setCell w' p u k (by rw [hp]; exact hb)).trans (h k o hk hb)
theorem Kt.fresh {b : Nat} {w w' : World} (h : Kt b w w') {p : Addr} (hp : w.heap.size ≤ p.block) (u : Value) : Kt b w (w'.setCell p u) := fun k o hk hb => (Below.heap_setCell w' p u k (by have := some_lt hk; omega)).trans (h k o hk hb)
theorem Kt.box {b : Nat} {w w' : World} (h : Kt b w w') {g : Nat} (hg : w.heap.size ≤ g) (u v : Value) : Kt b w ((w'.setCell ⟨g, 0, none⟩ u).setCell ⟨g, 1, none⟩ v) := (h.fresh (p := ⟨g, 0, none⟩) hg u).fresh (p := ⟨g, 1, none⟩) hg v
theorem Kt.bk {b : Nat} {w w' : World} (h : Kt b w w') {g : Nat} {t : TypeId} {cs : Array Value} (hb : Bk w g t cs) (hne : g ≠ b) : Bk w' g t cs := h g _ hb hne
theorem Kt.kr {T : TypeId} {b : Nat} {w w' : World} (h : Kt b w w') : Kr T b w w' := fun k o hk hb _ => h k o hk (fun e => hb (by rw [e]))
/-- One more put. -/
theorem Mc.put {T M : TypeId} {w w' : World} {C b g c c' : Nat} {A : Option Addr} {S : List Ce} {x : Ce} (hTM : T ≠ M) (hC : C ≤ b) (hb : Bk w b M #[.slice A S.length c, .int .i64 0]) (ho : StkOwn T w C (.slice A S.length c) S)
    (hw : w.grownBy w' (Value.slice A S.length c).ownBlock) (hown : StkOwn T w' C (.slice (some ⟨g, 0, none⟩) (S.length + 1) c') (S ++ [x])) : Mc T M (w'.setCell ⟨b, 0, none⟩ (.slice (some ⟨g, 0, none⟩) (S.length + 1) c')) C b (S ++ [x], 0) := by
  have hb' : Bk w' b M #[.slice A S.length c, .int .i64 0] := hb.grown hw (own_ne ho.row hb hTM)
  have hs := hb'.set_ 0 (.slice (some ⟨g, 0, none⟩) (S.length + 1) c')
  refine ⟨hC, some ⟨g, 0, none⟩, c', ?_, ?_⟩
  · rw [show (S ++ [x], (0 : Int)).1.length = S.length + 1 by simp]; exact hs
  · rw [show (S ++ [x], (0 : Int)).1.length = S.length + 1 by simp]
    exact own_set hown.row (own_ne hown.row hb' hTM) _
/-- A stack is empty, or has a last one. -/
theorem stack_ways (S : List Ce) : S = [] ∨ ∃ T c, S = T ++ [c] := by
  cases h : S.reverse with
  | nil => exact .inl (by simpa using h)
  | cons c T => exact .inr ⟨T.reverse, c, by have := congrArg List.reverse h; simpa using this⟩
theorem Kr.fresh {T : TypeId} {b : Nat} {w w' : World} (h : Kr T b w w') {p : Addr} (hp : w.heap.size ≤ p.block) (u : Value) : Kr T b w (w'.setCell p u) := fun k o hk hb ho => by
  have hl : k < w.heap.size := by
    rcases Nat.lt_or_ge k w.heap.size with h | h
    · exact h
    · rw [Array.getElem?_eq_none h] at hk; cases hk
  exact (Below.heap_setCell w' p u k (by omega)).trans (h k o hk hb ho)
theorem Rel.box {w0 w : World} (h : Rel w0 w) {g : Nat} (hg : w0.heap.size ≤ g) (u v : Value) : Rel w0 ((w.setCell ⟨g, 0, none⟩ u).setCell ⟨g, 1, none⟩ v) := (h.setCell (p := ⟨g, 0, none⟩) hg u).setCell (p := ⟨g, 1, none⟩) hg v
theorem Kr.box {T : TypeId} {b : Nat} {w w' : World} (h : Kr T b w w') {g : Nat} (hg : w.heap.size ≤ g) (u v : Value) : Kr T b w ((w'.setCell ⟨g, 0, none⟩ u).setCell ⟨g, 1, none⟩ v) := (h.fresh (p := ⟨g, 0, none⟩) hg u).fresh (p := ⟨g, 1, none⟩) hg v
theorem StkOwn.alloc {T : TypeId} {w : World} {base : Nat} {v : Value} {S : List Ce} (h : StkOwn T w base v S) (o : Obj) : StkOwn T (w.alloc o) base v S := h.row.alloc o
end Go.Proofs.YtcckemhelockaaaGreatDoor

namespace Go.Proofs.YtcckemhelockaaaGreatDoor
open Go.RowKit Go.Lib
set_option linter.unusedVariables false
set_option linter.unusedSimpArgs false
/-- A box of two cells written. -/
theorem Mc.box {T M : TypeId} {w : World} {C b g n c : Nat} {A : Option Addr} {S : List Ce} {E : Int} (hC : C ≤ b) (hn : S.length = n) (h1 : Bk w b M #[.slice A n c, .int .i64 E]) (h2 : StkOwn T w C (.slice A n c) S) (hg : g ≠ b) (hx : some g ≠ (Value.slice A n c).ownBlock) (u v : Value) :
    Mc T M ((w.setCell ⟨g, 0, none⟩ u).setCell ⟨g, 1, none⟩ v) C b (S, E) := by
  subst hn
  exact ⟨hC, A, c, (h1.far (p := ⟨g, 0, none⟩) (Ne.symm hg) u).far (p := ⟨g, 1, none⟩) (Ne.symm hg) v, own_set (own_set h2.row (p := ⟨g, 0, none⟩) hx u) (p := ⟨g, 1, none⟩) hx v⟩
end Go.Proofs.YtcckemhelockaaaGreatDoor

namespace Go.Proofs.YtcckemhelockaaaGreatDoor
open Go.RowKit Go.Lib
set_option linter.unusedVariables false
set_option linter.unusedSimpArgs false
theorem offsTo_step {os : List Of} {i : Nat} (hi : i < os.length) (h : offsTo os i = true) (h1 : offOk os[i] = true) (h2 : ∀ k (hk : k < os.length), k < i → os[k].1 ≠ os[i].1) : offsTo os (i + 1) = true := by
  rw [offsTo_iff (by omega)] at h ⊢
  intro j hj hji
  by_cases e : j = i
  · subst e; exact ⟨h1, h2⟩
  · exact h j hj (by omega)
theorem offs_bad {os : List Of} {i : Nat} (hi : i < os.length) (h : offOk os[i] = false ∨ ∃ k, ∃ hk : k < os.length, k < i ∧ os[k].1 = os[i].1) : offsOk os = false := by
  cases e : offsOk os
  · rfl
  · obtain ⟨_, h2⟩ := offs_iff.1 e
    obtain ⟨h3, h4⟩ := h2 i hi
    rcases h with h | ⟨k, hk, hki, he⟩
    · rw [h3] at h; cases h
    · exact absurd he (h4 k hk hki)
theorem offs_many {os : List Of} (h : 8 < os.length) : offsOk os = false := by
  cases e : offsOk os
  · rfl
  · have := (offs_iff.1 e).1; omega
theorem offs_full {os : List Of} (h : os.length ≤ 8) (h2 : offsTo os os.length = true) : offsOk os = true := by
  unfold offsOk; rw [h2]; simp [h]
theorem offOk_mk {o : Of} {s : List UInt8} {p : Int} (h : o = (s, p)) (b : Bool) (hb : (isName s && decide (1 ≤ p ∧ p ≤ 1000000000000)) = b) : offOk o = b := by subst h; exact hb
end Go.Proofs.YtcckemhelockaaaGreatDoor

namespace Go.Proofs.YtcckemhelockaaaGreatDoor
open Go.RowKit Go.Lib
set_option linter.unusedVariables false
set_option linter.unusedSimpArgs false
theorem m9rt_iff {a : Int} : rt a = true ↔ -1000000000000 ≤ a ∧ a ≤ 1000000000000 := by simp [rt]
theorem m9prod_bd {a b A B : Int} (h1 : -A ≤ a) (h2 : a ≤ A) (h3 : -B ≤ b) (h4 : b ≤ B) : -(A * B) ≤ a * b ∧ a * b ≤ A * B := by
  have h : a.natAbs * b.natAbs ≤ A.natAbs * B.natAbs := Nat.mul_le_mul (by omega) (by omega)
  have e : (a * b).natAbs = a.natAbs * b.natAbs := Int.natAbs_mul a b
  have e2 : (A * B).natAbs = A.natAbs * B.natAbs := Int.natAbs_mul A B
  have hp : 0 ≤ A * B := Int.mul_nonneg (by omega) (by omega)
  omega
theorem m9fl_lt {p : Int} : fl p * 10000 ≤ p ∧ p < fl p * 10000 + 10000 := by
  have := tdt p 10000 (by omega)
  unfold fl; split <;> omega
theorem m9ret_two {a b c d : Int} (h : a = c) (h' : b = d) : Two (Ending.returned (.tuple #[.int .i64 a, .int .i64 b])) c d := by subst h; subst h'; rfl
end Go.Proofs.YtcckemhelockaaaGreatDoor

namespace Go.Proofs.YtcckemhelockaaaGreatDoor
open Go.RowKit Go.Lib
set_option linter.unusedVariables false
set_option linter.unusedSimpArgs false
theorem Rel.right2 {w w' : World} (h : Rel w w') : Rel w' w' := h.self
/-- An element of a row, whole. -/
def KidAt (W : World) (A' : Option Addr) (i : Nat) (el : El) : Prop := ∃ g off, A' = some ⟨g, off, none⟩ ∧ g < W.heap.size ∧ W.cell? ⟨g, off + i, none⟩ = some (.int .i64 el.1) ∧ W.cell? ⟨g, off + i + 1, none⟩ = some (.int .i64 el.2.1) ∧ W.cell? ⟨g, off + i + 2, none⟩ = some (.string (B el.2.2.1)) ∧ W.cell? ⟨g, off + i + 3, none⟩ = some (.slice el.2.2.2.1 el.2.2.2.2.1 el.2.2.2.2.2)
theorem KidAt.rel {W W' : World} {A' : Option Addr} {i : Nat} {el : El} (h : KidAt W A' i el) (hr : Rel W W') : KidAt W' A' i el := by
  obtain ⟨g, off, e, hl, h0, h1, h2, h3⟩ := h
  have hk : ∀ j, W'.cell? ⟨g, j, none⟩ = W.cell? ⟨g, j, none⟩ := fun j => hr.2.cell (p := ⟨g, j, none⟩) hl
  exact ⟨g, off, e, by have := hr.size; omega, by rw [hk]; exact h0, by rw [hk]; exact h1, by rw [hk]; exact h2, by rw [hk]; exact h3⟩
theorem KidAt.at0 {W : World} {g off : Nat} {el : El} (h : KidAt W (some ⟨g, off, none⟩) 0 el) : W.cell? ⟨g, off, none⟩ = some (.int .i64 el.1) ∧ W.cell? ⟨g, off + 1, none⟩ = some (.int .i64 el.2.1) ∧ W.cell? ⟨g, off + 2, none⟩ = some (.string (B el.2.2.1)) ∧ W.cell? ⟨g, off + 3, none⟩ = some (.slice el.2.2.2.1 el.2.2.2.2.1 el.2.2.2.2.2) := by
  obtain ⟨g', off', e, _, h0, h1, h2, h3⟩ := h
  injection e with e; injection e with e1 e2; subst e1; subst e2
  exact ⟨h0, h1, h2, h3⟩
theorem KidAt.at {W : World} {g off i : Nat} {el : El} (h : KidAt W (some ⟨g, off, none⟩) i el) : W.cell? ⟨g, off + i, none⟩ = some (.int .i64 el.1) ∧ W.cell? ⟨g, off + i + 1, none⟩ = some (.int .i64 el.2.1) ∧ W.cell? ⟨g, off + i + 2, none⟩ = some (.string (B el.2.2.1)) ∧ W.cell? ⟨g, off + i + 3, none⟩ = some (.slice el.2.2.2.1 el.2.2.2.2.1 el.2.2.2.2.2) := by
  obtain ⟨g', off', e, _, h0, h1, h2, h3⟩ := h
  injection e with e; injection e with e1 e2; subst e1; subst e2
  exact ⟨h0, h1, h2, h3⟩
theorem KidAt.some {W : World} {A' : Option Addr} {i : Nat} {el : El} (h : KidAt W A' i el) : ∃ g off, A' = some ⟨g, off, none⟩ := by
  obtain ⟨g, off, e, _⟩ := h; exact ⟨g, off, e⟩
end Go.Proofs.YtcckemhelockaaaGreatDoor

namespace Go.Proofs.YtcckemhelockaaaGreatDoor
open Go.RowKit Go.Lib
set_option linter.unusedVariables false
set_option linter.unusedSimpArgs false
theorem Mc.cells {T M : TypeId} {w : World} {C b : Nat} {s : Ms} (h : Mc T M w C b s) : ∃ A c, (w.cell? ⟨b, 0, none⟩ = some (.slice A s.1.length c) ∧ w.cell? ⟨b, 1, none⟩ = some (.int .i64 s.2)) ∧ w.frozen? ⟨b, 0, none⟩ = false ∧ w.frozen? ⟨b, 1, none⟩ = false := by
  obtain ⟨hC, A, c, h1, h2⟩ := h
  exact ⟨A, c, ⟨h1.cell 0, h1.cell 1⟩, h1.frozen 0, h1.frozen 1⟩
end Go.Proofs.YtcckemhelockaaaGreatDoor

namespace Go.Proofs.YtcckemhelockaaaGreatDoor
open Go.RowKit Go.Lib
set_option linter.unusedVariables false
set_option linter.unusedSimpArgs false
theorem from_hit {os : List Of} {s : List UInt8} {i : Nat} (hi : i < os.length) (h : os[i].1 = s) (hn : ∀ k (hk : k < os.length), k < i → os[k].1 ≠ s) : fromO os s = some os[i].2 := by
  unfold fromO
  have : os.find? (fun o => decide (o.1 = s)) = some os[i] := by
    rw [List.find?_eq_some_iff_getElem]
    refine ⟨by simpa using h, i, hi, rfl, fun j hj => ?_⟩
    simpa using hn j (by omega) hj
  rw [this]; rfl
end Go.Proofs.YtcckemhelockaaaGreatDoor

namespace Go.Proofs.YtcckemhelockaaaGreatDoor
open Go.RowKit Go.Lib
set_option linter.unusedVariables false
set_option linter.unusedSimpArgs false
theorem len0 {l : List Ex} (h : (0 : Int) = (l.length : Int)) : l = [] := List.length_eq_zero_iff.1 (by omega)
theorem len1 {l : List Ex} (h : (1 : Int) = (l.length : Int)) : ∃ a, l = [a] := List.length_eq_one_iff.1 (by omega)
theorem len2 {l : List Ex} (h : (2 : Int) = (l.length : Int)) : ∃ a b, l = [a, b] := by
  match l, h with
  | [a, b], _ => exact ⟨a, b, rfl⟩
  | [], h => simp at h
  | [_], h => simp at h
  | _ :: _ :: _ :: _, h => simp only [List.length_cons] at h; omega
theorem len3 {l : List Ex} (h : (3 : Int) = (l.length : Int)) : ∃ a b c, l = [a, b, c] := by
  match l, h with
  | [a, b, c], _ => exact ⟨a, b, c, rfl⟩
  | [], h => simp at h
  | [_], h => simp at h
  | [_, _], h => simp at h
  | _ :: _ :: _ :: _ :: _, h => simp only [List.length_cons] at h; omega
end Go.Proofs.YtcckemhelockaaaGreatDoor

namespace Go.Proofs.YtcckemhelockaaaGreatDoor
open Go.RowKit Go.Lib
set_option linter.unusedVariables false
set_option linter.unusedSimpArgs false
def PrintOk : Prop := ∀ (x : Ex) (S : Nat → Prop) (e : El) (w0 w : World), Rel w0 w → ExAt S w e x → size x ≤ 100000 → Calls Tryz.prog 46 #[EV e] w fun r w' => r = .returned (.tuple #[.string (B (prT x)), .int .i64 (prE x)]) ∧ Rel w0 w'
def RightOk : Prop := ∀ (x : Ex) (S : Nat → Prop) (e : El) (w0 w : World), Rel w0 w → ExAt S w e x → size x ≤ 100000 → Calls Tryz.prog 28 #[EV e] w fun r w' => r = .returned (.bool (rightX x)) ∧ Rel w0 w'
theorem ExAt.one {S : Nat → Prop} {w : World} {k n : Int} {nm : List UInt8} {g c : Nat} {a : El} {x : Ex} (hk : i64 k) (hn : i64 n) (hm : nm.length ≤ 100) (h : Bk w g 38 (cellsEs [a]).toArray) (hS : S g) (hx : ExAt S w a x) :
    ExAt S w (k, n, nm, some ⟨g, 0, none⟩, 1, c) (.mk k n nm [x]) :=
  .mk k n nm _ c [x] [a] hk hn hm rfl (RowE.of_bk h hS) fun i h h' => by
    match i, h, h' with
    | 0, _, _ => exact hx
end Go.Proofs.YtcckemhelockaaaGreatDoor

namespace Go.Proofs.YtcckemhelockaaaGreatDoor
open Go.RowKit Go.Lib
set_option linter.unusedVariables false
set_option linter.unusedSimpArgs false
theorem right_fine {x : Ex} (h : rightX x = true) : fine 32 x = true ∧ isCond x.k = false := by
  unfold rightX at h
  simp only [Bool.and_eq_true, Bool.not_eq_true'] at h
  exact ⟨h.1.1.1, h.1.1.2⟩
end Go.Proofs.YtcckemhelockaaaGreatDoor
