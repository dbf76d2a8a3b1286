/- The landed made, Expire, Offers. -/
import Derived.Test.YtfplhpkolcgpiaaZL
import Derived.Test.YtfplhpkolcgpiaaZ00
import Derived.Test.YtfplhpkolcgpiaaZ01
import Derived.Test.YtfplhpkolcgpiaaZ02
import Derived.Test.YtfplhpkolcgpiaaZ05
namespace Go.Proofs.Ytfplhpkolcgpiaa
open Go.RowKit Go.Lib
set_option linter.unusedVariables false
set_option linter.unusedSimpArgs false
theorem enter_exp : ∀ (args : Array Value) (w : World), (callFunc 37 args).run Try.prog w = .ok (.enter 37 args) w := enters_of Try.func37 (by kernel_rfl) rfl
theorem enter_off : ∀ (args : Array Value) (w : World), (callFunc 44 args).run Try.prog w = .ok (.enter 44 args) w := enters_of Try.func44 (by kernel_rfl) rfl
set_option maxRecDepth 100000 in
set_option maxHeartbeats 8000000 in
theorem made_exp (now m : Int) (g1 g2 : Nat) (b : List Sl) (A : Option Addr) (c : Nat) (w : World) (hr : Rel w w) (hb : SlArg w A c b) (h1 : Bk w g1 3 #[.int .i64 m]) (h2 : Bk w g2 3 #[.int .i64 now]) :
    Calls Try.prog 36 #[.slice A b.length c, .func (.func 37) #[] #[.pointer (some ⟨g1, 0, none⟩), .pointer (some ⟨g2, 0, none⟩)]] w fun e w' => ∃ A2 c2, e = .returned (.slice A2 (expB b now m).length c2) ∧ BkOwn w' w.heap.size (.slice A2 (expB b now m).length c2) (expB b now m) ∧ Rel w w' := by
  obtain ⟨_, _, hlen, _, hat⟩ := hb
  have hen := enter_exp
  have HB := Lib.hid hat
  have HR := Lib.hid hr
  have H1 := Lib.hid h1
  have H2 := Lib.hid h2
  clear h1 h2
  obtain ⟨i0, hi0, hz0, hz1, hz2⟩ := info_parts slot_info
  clear hat hr
  go_enter Try.func36, Try.ntmps36
  go_wp2_with (fail)
  go_loopw [5, 7, 8, 9, 12] (fun o _ _ _ i wr => ∃ (j L : Nat) (out : List Sl) (A2 : Option Addr) (c2 : Nat), o = .slice A2 L c2 ∧ j ≤ b.length ∧ L ≤ j ∧ i = .int .i64 (j : Int) ∧ Hid (out.length = L) ∧ Hid (out = expB (b.take j) now m) ∧ Hid (BkOwn wr w.heap.size (.slice A2 L c2) out) ∧ Hid (Rel w wr)) (fun _ _ _ _ i _ => b.length - (RowKit.intOf i).toNat)
  case atStart => exact ⟨0, 0, [], none, 0, rfl, by omega, Nat.le_refl _, rfl, Lib.hid rfl, Lib.hid rfl, Lib.hid (RowOwn.nil _ _ _), Lib.hid HR.out⟩
  case round =>
    obtain ⟨j, L, out, A2, c2, rfl, hj, hL, rfl, HL, HE, HO, HRw⟩ := hrel
    by_cases hlt : j < b.length
    · have HN := Lib.hid (exp_next hlt now m)
      obtain ⟨g, off, x, rfl, hgl, hx, k0, k1, k2⟩ := slot_at HB.out HRw.out j hlt
      have HX := Lib.hid hx
      have hi : (j : Int) < (b.length : Int) := by omega
      obtain ⟨xs, hxs⟩ : ∃ s, B x.1 = s := ⟨_, rfl⟩
      obtain ⟨xp, hxp⟩ : ∃ s, x.2.1 = s := ⟨_, rfl⟩
      obtain ⟨xt, hxt⟩ : ∃ s, x.2.2 = s := ⟨_, rfl⟩
      rw [hxs] at k0
      rw [hxp] at k1
      rw [hxt] at k2
      have HC := Lib.hid (show cl3 x = [.string xs, .int .i64 xp, .int .i64 xt] from by unfold cl3; rw [hxs, hxp, hxt])
      have HT := Lib.hid hxt
      clear hx hgl hxs hxp hxt
      have R1 := Lib.hid (HRw.out.alloc (.cells #[.string xs, .int .i64 xp, .int .i64 xt] 50))
      have O1 := Lib.hid (HO.out.row.alloc (.cells #[.string xs, .int .i64 xp, .int .i64 xt] 50))
      obtain ⟨lt, hlt2⟩ : ∃ l, laterF xt m = l := ⟨_, rfl⟩
      have HLt := Lib.hid hlt2
      have HN := Lib.hid (show expB (b.take (j + 1)) now m = expB (b.take j) now m ++ (if now ≤ lt then [x] else []) from by rw [HN.out, HX.out, HT.out, hlt2])
      clear hlt2
      have HCq := Lib.hid (fun (q : Bool) (hq : decide (now ≤ lt) = q) => clos_exp xs xp xt m now lt q HLt hq g1 g2 wr (wr.alloc (.cells #[.string xs, .int .i64 xp, .int .i64 xt] 50)) (HRw.out.self.alloc _) ((H1.out.rel HRw.out).alloc _) ((H2.out.rel HRw.out).alloc _))
      by_cases hn : now ≤ lt
      · have HCl := Lib.hid (HCq.out true (decide_eq_true hn))
        have HN := Lib.hid (show expB (b.take (j + 1)) now m = out ++ [x] from by rw [HN.out, if_pos hn, HE.out])
        clear hn HCq
        go_upto_region 6 with (go_at_fn 37; (with_reducible refine HCl.out.mono ?_); rintro e w2 ⟨rfl, r2⟩; have R2 := Lib.hid r2; clear r2)
        have R3 := Lib.hid ((HRw.out.trans R2.out).alloc (.cells #[.string xs, .int .i64 xp, .int .i64 xt] 50))
        have O2 := Lib.hid (own_rel HO.out.row (R2.out))
        have HRow := Lib.hid (show RowOwn 50 cl3 3 ((w2.alloc (.cells #[.string xs, .int .i64 xp, .int .i64 xt] 50)).alloc (.cells #[.string xs, .int .i64 xp, .int .i64 xt] 50)) w.heap.size (.slice A2 L c2) out from (O2.out.alloc _).alloc _)
        have HOne := Lib.hid (show RowAt cl3 3 ((w2.alloc (.cells #[.string xs, .int .i64 xp, .int .i64 xt] 50)).alloc (.cells #[.string xs, .int .i64 xp, .int .i64 xt] 50)) (some ⟨w2.heap.size + 1, 0, none⟩) [x] from RowAt.of_bk cl3_len (T := 50) (by rw [List.flatMap_cons, List.flatMap_nil, List.append_nil, HC.out]; have h := Bk.new (w2.alloc (.cells #[.string xs, .int .i64 xp, .int .i64 xt] 50)) 50 #[.string xs, .int .i64 xp, .int .i64 xt]; rw [World.size_alloc] at h; exact h))
        have hsz : w.heap.size ≤ ((w2.alloc (.cells #[.string xs, .int .i64 xp, .int .i64 xt] 50)).alloc (.cells #[.string xs, .int .i64 xp, .int .i64 xt] 50)).heap.size := by rw [World.size_alloc, World.size_alloc]; have := (HRw.out.trans R2.out).size; omega
        go_wp2_with (at_builtin; (refine wpList_onto 50 23 i0 (.agg #[.string ⟨#[]⟩, .int .i64 0, .int .i64 0]) 32 Try.underlying23 hi0 hz0 hz1 hz2 rfl (by decide) cl3_len cl3_one rfl _ _ rfl w.heap.size (.slice A2 L c2) out rfl HRow.out (some ⟨w2.heap.size + 1, 0, none⟩) 1 1 [x] rfl rfl HOne.out (fun e => by cases e) (by rw [HL.out]; show (L + 1) * 32 ≤ _; omega) (by rw [HL.out]; show L + 1 ≤ _; unfold maxLen; omega) hsz ?_); intro v5 w5 own5 gr5; obtain ⟨A5, c5, e5, _⟩ := own5.slice_of; obtain ⟨L5, hL5⟩ : ∃ l, (out ++ [x]).length = l := ⟨_, rfl⟩; rw [hL5] at e5; subst e5; have HL5 := Lib.hid hL5; clear hL5; have O5 := Lib.hid own5; have G5 := Lib.hid gr5; clear own5 gr5)
        have hL6 : L5 = L + 1 := by rw [← HL5.out, List.length_append, HL.out]; rfl
        go_roundw
        case rel => exact ⟨j + 1, L5, out ++ [x], A5, c5, rfl, by omega, by omega, by go_num, HL5, Lib.hid HN.out.symm, O5, Lib.hid ((R3.out.alloc _).grown G5.out (fun q hq => (HRow.out.row.lt q hq).1))⟩
        case measure => simp [RowKit.intOf]; omega
      · have HCl := Lib.hid (HCq.out false (decide_eq_false hn))
        have HN := Lib.hid (show expB (b.take (j + 1)) now m = out from by rw [HN.out, if_neg hn, List.append_nil, HE.out])
        clear hn HCq
        go_upto_region 6 with (go_at_fn 37; (with_reducible refine HCl.out.mono ?_); rintro e w2 ⟨rfl, r2⟩; have R2 := Lib.hid r2; clear r2)
        have R3 := Lib.hid ((HRw.out.trans R2.out).alloc (.cells #[.string xs, .int .i64 xp, .int .i64 xt] 50))
        have O3 := Lib.hid (RowOwn.rel HO.out (R2.out.alloc (.cells #[.string xs, .int .i64 xp, .int .i64 xt] 50)))
        go_wp2_with (fail)
        go_roundw
        case rel => exact ⟨j + 1, L, out, A2, c2, rfl, by omega, by omega, by go_num, HL, Lib.hid HN.out.symm, O3, R3⟩
        case measure => simp [RowKit.intOf]; omega
    · obtain rfl : j = b.length := by omega
      have hE : out = expB b now m := by rw [HE.out, List.take_length]
      have hLL : (expB b now m).length = L := by rw [← hE]; exact HL.out
      have HE2 := Lib.hid hE
      have HL2 := Lib.hid hLL
      clear hE hLL
      go_wp2_with (fail)
      go_ret
      exact ⟨A2, c2, by (rw [HL2.out]; try rfl), by rw [HL2.out, ← HE2.out]; exact HO.out, HRw.out⟩
set_option maxRecDepth 100000 in
set_option maxHeartbeats 8000000 in
theorem made_off (b : List Sl) (A : Option Addr) (c : Nat) (w : World) (hr : Rel w w) (hb : SlArg w A c b) :
    Calls Try.prog 43 #[.slice A b.length c, .func (.func 44) #[] #[]] w fun e w' => ∃ A2 c2, e = .returned (.slice A2 (offB b).length c2) ∧ FfOwn w' w.heap.size (.slice A2 (offB b).length c2) (offB b) ∧ Rel w w' := by
  obtain ⟨_, _, hlen, _, hat⟩ := hb
  have hen := enter_off
  have HB := Lib.hid hat
  have HR := Lib.hid hr
  obtain ⟨i0, hi0, hz0, hz1, hz2⟩ := info_parts offr_info
  clear hat hr
  go_enter Try.func43, Try.ntmps43
  go_wp2_with (fail)
  go_loopw [5, 7, 8, 9, 12] (fun o _ _ _ i wr => ∃ (j L : Nat) (out : List Sn) (A2 : Option Addr) (c2 : Nat), o = .slice A2 L c2 ∧ j ≤ b.length ∧ L ≤ j ∧ i = .int .i64 (j : Int) ∧ Hid (out.length = L) ∧ Hid (out = offB (b.take j)) ∧ Hid (FfOwn wr w.heap.size (.slice A2 L c2) out) ∧ Hid (Rel w wr)) (fun _ _ _ _ i _ => b.length - (RowKit.intOf i).toNat)
  case atStart => exact ⟨0, 0, [], none, 0, rfl, by omega, Nat.le_refl _, rfl, Lib.hid rfl, Lib.hid rfl, Lib.hid (RowOwn.nil _ _ _), Lib.hid HR.out⟩
  case round =>
    obtain ⟨j, L, out, A2, c2, rfl, hj, hL, rfl, HL, HE, HO, HRw⟩ := hrel
    by_cases hlt : j < b.length
    · have HN := Lib.hid (off_next hlt)
      obtain ⟨g, off, x, rfl, hgl, hx, k0, k1, k2⟩ := slot_at HB.out HRw.out j hlt
      have HX := Lib.hid hx
      have hi : (j : Int) < (b.length : Int) := by omega
      obtain ⟨xs, hxs⟩ : ∃ s, B x.1 = s := ⟨_, rfl⟩
      obtain ⟨xp, hxp⟩ : ∃ s, x.2.1 = s := ⟨_, rfl⟩
      obtain ⟨xt, hxt⟩ : ∃ s, x.2.2 = s := ⟨_, rfl⟩
      rw [hxs] at k0
      rw [hxp] at k1
      rw [hxt] at k2
      have HC := Lib.hid (show cl2 (x.1, x.2.1) = [.string xs, .int .i64 xp] from by unfold cl2; rw [hxs, hxp])
      have HT := Lib.hid hxt
      clear hx hgl hxs hxp hxt
      have R1 := Lib.hid (HRw.out.alloc (.cells #[.string xs, .int .i64 xp, .int .i64 xt] 50))
      have O1 := Lib.hid (HO.out.row.alloc (.cells #[.string xs, .int .i64 xp, .int .i64 xt] 50))
      have HN := Lib.hid (show offB (b.take (j + 1)) = out ++ [(x.1, x.2.1)] from by rw [HN.out, HX.out, HE.out])
      have HCl := Lib.hid (clos_off xs xp xt wr (wr.alloc (.cells #[.string xs, .int .i64 xp, .int .i64 xt] 50)) (HRw.out.self.alloc _))
      go_upto_region 6 with (go_at_fn 44; (with_reducible refine HCl.out.mono ?_); rintro e w2 ⟨rfl, r2⟩; have R2 := Lib.hid r2; clear r2)
      have R3 := Lib.hid ((HRw.out.trans R2.out).alloc (.cells #[.string xs, .int .i64 xp] 41))
      have O2 := Lib.hid (own_rel HO.out.row (R2.out))
      have HRow := Lib.hid (show RowOwn 41 cl2 2 ((w2.alloc (.cells #[.string xs, .int .i64 xp] 41)).alloc (.cells #[.string xs, .int .i64 xp] 41)) w.heap.size (.slice A2 L c2) out from (O2.out.alloc _).alloc _)
      have HOne := Lib.hid (show RowAt cl2 2 ((w2.alloc (.cells #[.string xs, .int .i64 xp] 41)).alloc (.cells #[.string xs, .int .i64 xp] 41)) (some ⟨w2.heap.size + 1, 0, none⟩) [(x.1, x.2.1)] from RowAt.of_bk cl2_len (T := 41) (by rw [List.flatMap_cons, List.flatMap_nil, List.append_nil, HC.out]; have h := Bk.new (w2.alloc (.cells #[.string xs, .int .i64 xp] 41)) 41 #[.string xs, .int .i64 xp]; rw [World.size_alloc] at h; exact h))
      have hsz : w.heap.size ≤ ((w2.alloc (.cells #[.string xs, .int .i64 xp] 41)).alloc (.cells #[.string xs, .int .i64 xp] 41)).heap.size := by rw [World.size_alloc, World.size_alloc]; have := (HRw.out.trans R2.out).size; omega
      go_wp2_with (at_builtin; (refine wpList_onto 41 38 i0 (.agg #[.string ⟨#[]⟩, .int .i64 0]) 24 Try.underlying38 hi0 hz0 hz1 hz2 rfl (by decide) cl2_len cl2_one rfl _ _ rfl w.heap.size (.slice A2 L c2) out rfl HRow.out (some ⟨w2.heap.size + 1, 0, none⟩) 1 1 [(x.1, x.2.1)] rfl rfl HOne.out (fun e => by cases e) (by rw [HL.out]; show (L + 1) * 24 ≤ _; omega) (by rw [HL.out]; show L + 1 ≤ _; unfold maxLen; omega) hsz ?_); intro v5 w5 own5 gr5; obtain ⟨A5, c5, e5, _⟩ := own5.slice_of; obtain ⟨L5, hL5⟩ : ∃ l, (out ++ [(x.1, x.2.1)]).length = l := ⟨_, rfl⟩; rw [hL5] at e5; subst e5; have HL5 := Lib.hid hL5; clear hL5; have O5 := Lib.hid own5; have G5 := Lib.hid gr5; clear own5 gr5)
      have hL6 : L5 = L + 1 := by rw [← HL5.out, List.length_append, HL.out]; rfl
      go_roundw
      case rel => exact ⟨j + 1, L5, out ++ [(x.1, x.2.1)], A5, c5, rfl, by omega, by omega, by go_num, HL5, Lib.hid HN.out.symm, O5, Lib.hid ((R3.out.alloc _).grown G5.out (fun q hq => (HRow.out.row.lt q hq).1))⟩
      case measure => simp [RowKit.intOf]; omega
    · obtain rfl : j = b.length := by omega
      have hE : out = offB b := by rw [HE.out, List.take_length]
      have hLL : (offB b).length = L := by rw [← hE]; exact HL.out
      have HE2 := Lib.hid hE
      have HL2 := Lib.hid hLL
      clear hE hLL
      go_wp2_with (fail)
      go_ret
      exact ⟨A2, c2, by (rw [HL2.out]; try rfl), by rw [HL2.out, ← HE2.out]; exact HO.out, HRw.out⟩
set_option maxRecDepth 100000 in
theorem pexpire_any : KExpOk := fun b A c now most w hr hb => by
  have hM := made_exp now most (w.heap.size + 1) w.heap.size b A c ((w.alloc (.cells #[.int .i64 now] 3)).alloc (.cells #[.int .i64 most] 3)) ((hr.alloc _).alloc _).self (hb.rel ((hr.alloc _).alloc _)) (by have h := Bk.new (w.alloc (.cells #[.int .i64 now] 3)) 3 #[.int .i64 most]; rw [World.size_alloc] at h; exact h) ((Bk.new w 3 #[.int .i64 now]).alloc _)
  have HM := Lib.hid hM
  have HR := Lib.hid ((hr.alloc (.cells #[.int .i64 now] 3)).alloc (.cells #[.int .i64 most] 3))
  clear hM hr hb
  go_enter Try.func17, Try.ntmps17
  go_wp2_with (go_at_call 36; (with_reducible refine HM.out.mono ?_); rintro e w1 ⟨A1, c1, rfl, o1, r1⟩; have O1 := Lib.hid o1; have R1 := Lib.hid r1; clear o1 r1)
  go_ret
  exact ⟨A1, c1, rfl, row_own_mono O1.out (by rw [World.size_alloc, World.size_alloc]; omega), HR.out.trans R1.out⟩
set_option maxRecDepth 100000 in
theorem poffers_any : KOffOk := fun b A c w hr hb => by
  have HM := Lib.hid (made_off b A c w hr hb)
  clear hr hb
  go_enter Try.func21, Try.ntmps21
  go_wp2_with (go_at_call 43; (with_reducible refine HM.out.mono ?_); rintro e w1 ⟨A1, c1, rfl, o1, r1⟩; have O1 := Lib.hid o1; have R1 := Lib.hid r1; clear o1 r1)
  go_ret
  exact ⟨A1, c1, rfl, O1.out, R1.out⟩
end Go.Proofs.Ytfplhpkolcgpiaa
