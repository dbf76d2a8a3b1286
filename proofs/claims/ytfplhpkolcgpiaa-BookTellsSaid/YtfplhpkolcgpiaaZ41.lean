/- The document's own answers of layer 13: what a book offers; A drawn region walked by hand: what is taken first, under a condition that the region keeps; what alone may come up. -/
import Derived.Test.YtfplhpkolcgpiaaZL
import Derived.Test.YtfplhpkolcgpiaaZ00
import Derived.Test.YtfplhpkolcgpiaaZ01
import Derived.Test.YtfplhpkolcgpiaaZ07
import Derived.Test.YtfplhpkolcgpiaaZ21
namespace Go.Proofs.Ytfplhpkolcgpiaa
open Go.RowKit Go.Lib
set_option linter.unusedVariables false
set_option linter.unusedSimpArgs false
set_option maxRecDepth 100000 in
set_option maxHeartbeats 8000000 in
theorem roffers_any (b : List Sl) (A : Option Addr) (c : Nat) (w : World) (hr : Rel w w) (hb : SlArg w A c b) :
    Calls Try.prog 22 #[.slice A b.length c] w fun e w' => ∃ A2 c2, e = .returned (.slice A2 (offB b).length c2) ∧ FfOwn w' w.heap.size (.slice A2 (offB b).length c2) (offB b) ∧ Rel w w' := by
  obtain ⟨_, _, hlen, _, hat⟩ := hb
  have HB := Lib.hid hat
  have HR := Lib.hid hr
  obtain ⟨i0, hi0, hz0, hz1, hz2⟩ := info_parts offr_info
  clear hat hr
  go_enter Try.func22, Try.ntmps22
  go_wp2_with (fail)
  go_loopw [3, 4] (fun o i wr => ∃ (j : Nat) (out : List Sn) (A2 : Option Addr) (c2 : Nat), o = .slice A2 j c2 ∧ j ≤ b.length ∧ i = .int .i64 (j : Int) ∧ Hid (out.length = j) ∧ Hid (out = offB (b.take j)) ∧ Hid (FfOwn wr w.heap.size (.slice A2 j c2) out) ∧ Hid (Rel w wr)) (fun _ i _ => b.length - (RowKit.intOf i).toNat)
  case atStart => exact ⟨0, [], none, 0, rfl, by omega, rfl, Lib.hid rfl, Lib.hid rfl, Lib.hid (RowOwn.nil _ _ _), Lib.hid HR.out⟩
  case round =>
    obtain ⟨j, out, A2, c2, rfl, hj, rfl, HL, HE, HO, HRw⟩ := hrel
    by_cases hlt : j < b.length
    · have HN := Lib.hid (off_next hlt)
      obtain ⟨g, off, x, rfl, hgl, hx, k0, k1, k2⟩ := slot_at HB.out HRw.out j hlt
      have HX := Lib.hid hx
      have hi : (j : Int) < (b.length : Int) := by omega
      have HN := Lib.hid (show offB (b.take (j + 1)) = out ++ [(x.1, x.2.1)] from by rw [HN.out, hx, HE.out])
      obtain ⟨xs, hxs⟩ : ∃ s, B x.1 = s := ⟨_, rfl⟩
      obtain ⟨xp, hxp⟩ : ∃ s, x.2.1 = s := ⟨_, rfl⟩
      rw [hxs] at k0
      rw [hxp] at k1
      have HC := Lib.hid (show cl2 (x.1, x.2.1) = [.string xs, .int .i64 xp] from by unfold cl2; rw [hxs, hxp])
      have HG := Lib.hid hgl
      clear hx hgl hxs hxp k2
      have HOne := Lib.hid (show ∀ u ∈ ([.string xs, .int .i64 xp] : List Value), u.oneCell' = true from by intro u hu; simp at hu; rcases hu with rfl | rfl <;> rfl)
      have hown := HO.out.row
      rw [HL.out] at hown
      have hgw : g < w.heap.size := HG.out
      have hww : w.heap.size ≤ wr.heap.size := HRw.out.size
      have ag : some g ≠ (Value.slice A2 j c2).ownBlock := fun e => by have := (hown.lt g e.symm).1; omega
      go_upto_region 5 with (fail)
      go_region_held3 (fun w' => w'.cell? ⟨g, off + j * 3, none⟩ = some (.string xs) ∧ w'.cell? ⟨g, off + j * 3 + 1, none⟩ = some (.int .i64 xp))
        (first
          | go_keep
          | (go_split_ands
             refine ⟨?_, ?_⟩
             · (rw [hgrow.cell_far _ (by simp; omega) ag]; assumption)
             · (rw [hgrow.cell_far _ (by simp; omega) ag]; assumption)))
        ((refine step_append_lies _ (by rfl) _ _ _ (by rfl) w.heap.size 41 i0 _ 2 24 Try.underlying38 hi0 hz0 hz1 hz2 rfl (by decide) (.slice A2 j c2) j (out.flatMap cl2) (by rfl) ((hown.alloc _).drew)
            ⟨wr.heap.size, 0, none⟩ 1 1 [.string xs, .int .i64 xp] (by rfl) (by rfl) (World.news_of_block (Bk.new wr 41 #[.string xs, .int .i64 xp])) HOne.out
            (by decide) (by unfold maxLen; omega) (by omega) (by simp; omega) (wr.heap.size + 1) (by simp) ?_; intro g9 c9 w9 hown1 hgrow hat hlt9))
      all_goals
        have HRow := Lib.hid ((hown.alloc (.cells #[.string xs, .int .i64 xp] 41)).drew)
        have HO2 := Lib.hid hown1
        have HG2 := Lib.hid hgrow
        go_wp2_with (fail)
        go_roundw
        case rel => exact ⟨j + 1, out ++ [(x.1, x.2.1)], _, c9, rfl, by omega, by go_num, Lib.hid (by rw [List.length_append, HL.out]; rfl), Lib.hid HN.out.symm, Lib.hid (RowOwn.more HL.out (by rw [HC.out]; exact HO2.out)), Lib.hid (((HRw.out.alloc _).drew).grown HG2.out (fun q hq => (hown.lt q hq).1))⟩
        case measure => simp [RowKit.intOf]; omega
    · obtain rfl : j = b.length := by omega
      have hE : out = offB b := by rw [HE.out, List.take_length]
      have HE2 := Lib.hid hE
      clear hE
      go_wp2_with (fail)
      go_ret
      exact ⟨A2, c2, by (rw [off_len]; try rfl), by rw [off_len, ← HE2.out]; exact HO.out, HRw.out⟩
end Go.Proofs.Ytfplhpkolcgpiaa

namespace Go.Proofs.Ytfplhpkolcgpiaa
open Go
set_option linter.unusedVariables false
set_option linter.unusedSimpArgs false
section
variable {P : Program} {ops : Array Oper} {Q : Exit → Act → World → Prop} {md : Region.Mode} {S : World → Prop}
theorem held_take {i : Nat} {oi : Oper} {v : Value} (d : Option Tmp) {fuel : Nat} {listed : Array Bool} {a : Act} {w : World} (hi : ops[i]? = some oi) (hd : oi.dst = d)
    (hs : Region.noSelect ops = true) (hf : Region.free md ops listed i = true) (hr : (Region.ready md ops listed).contains i = true)
    (hQ : ∀ c a w, Q (.panic c) (a.put d v) w → Q (.panic c) a w) (hy : YieldsIf P ops S oi v a) (hS : S w)
    (h : wpAnyH P md ops Q S fuel (listed.setIfInBounds i true) (a.put d v) w) : wpAnyH P md ops Q S (fuel + 1) listed a w := by
  subst hd
  exact wpAnyH_take hi hs hf hr hQ hy hS h
theorem held_one {j : Nat} {o : Oper} {fuel : Nat} {listed : Array Bool} {a : Act} {w : World} (hr : Region.ready md ops listed = [j]) (ho : ops[j]? = some o)
    (h : ∀ K' : Act → World → Prop, Shut (∀ a w, S w → (S w → wpAnyH P md ops Q S fuel (listed.setIfInBounds j true) a w) → K' a w) → if Region.wanted o (yielded ops a.tmps) = true then Oper.wp P o a w K' Q else K' (a.put o.dst undef) w) : wpAnyH P md ops Q S (fuel + 1) listed a w :=
  wpAnyH_ready hr (by simp) (AllReadyH.cons ho h AllReadyH.nil)
theorem held_two {j k : Nat} {o o' : Oper} {fuel : Nat} {listed : Array Bool} {a : Act} {w : World} (hr : Region.ready md ops listed = [j, k]) (ho : ops[j]? = some o) (ho' : ops[k]? = some o')
    (h : ∀ K' : Act → World → Prop, Shut (∀ a w, S w → (S w → wpAnyH P md ops Q S fuel (listed.setIfInBounds j true) a w) → K' a w) → if Region.wanted o (yielded ops a.tmps) = true then Oper.wp P o a w K' Q else K' (a.put o.dst undef) w)
    (h' : ∀ K' : Act → World → Prop, Shut (∀ a w, S w → (S w → wpAnyH P md ops Q S fuel (listed.setIfInBounds k true) a w) → K' a w) → if Region.wanted o' (yielded ops a.tmps) = true then Oper.wp P o' a w K' Q else K' (a.put o'.dst undef) w) : wpAnyH P md ops Q S (fuel + 1) listed a w :=
  wpAnyH_ready hr (by simp) (AllReadyH.cons ho h (AllReadyH.cons ho' h' AllReadyH.nil))
end
end Go.Proofs.Ytfplhpkolcgpiaa
