/- The library's Clone, Cut, Index, Atoi in this program's words; its SplitSeq over blanks, and a loop over it. -/
import Derived.Test.YtjbbfcomgglhiaaDoorSplitMath
import Derived.Test.YtjbbfcomgglhiaaDoorShelf
import Derived.Test.YtjbbfcomgglhiaaDoorRecScan
import Derived.RangeFuncNested
import Derived.RangeFuncBound
import Derived.RangeFuncCalls
import Derived.RangeFuncLeaves
import Derived.Shelf.Abstract
import Derived.Shelf.RegionOpen
import Derived.OwnWalkIn
import Derived.TacticsInMore
import Derived.LoopNIn
import Derived.LoopIn
namespace Go.Proofs.YtjbbfcomgglhiaaDoor
open Go.RowKit
open Go.Lib hiding intOf
set_option linter.unusedVariables false
set_option linter.unusedSimpArgs false
attribute [local go_sem] Oper.semAt_some

theorem idx_any (l : List UInt8) (w : World) : Calls Tryd.prog 60 #[.string (B l), .string ⟨#[32]⟩] w fun e w' => e = .returned (.int .i64 (indexByte l 32)) ∧ w' = w := by
  have h := Tryd.strings_Index_one (B l) 32 w
  rw [B_list] at h
  exact h
theorem idx58_any (l : List UInt8) (w : World) : Calls Tryd.prog 57 #[.string (B l), .string ⟨#[58]⟩] w fun e w' => e = .returned (.int .i64 (indexByte l 58)) ∧ w' = w := by
  have h := Tryd.stringslite_Index_one (B l) 58 w
  rw [B_list] at h
  exact h
theorem clone_any (s : ByteArray) (hs : s.size ≤ 1000000000) (w0 w : World) (hr : Rel w0 w) : Calls Tryd.prog 46 #[.string s] w fun e w' => e = .returned (.string s) ∧ Rel w0 w' := by
  have hc := fun w => Tryd.stringslite_Clone s w (by omega)
  go_enter Tryd.func46, Tryd.ntmps46
  go_wp2_with (go_at_call 52; refine (hc _).mono ?_; rintro e w' ⟨rfl, hw⟩)
  go_ret
  refine ⟨rfl, ?_⟩
  first
    | (exact hr.step hw)
    | (obtain rfl := hw; exact hr)
    | (trace_state; exact hr)
def Three (e : Ending) (a b : ByteArray) (c : Bool) : Prop := e = .returned (.tuple #[.string a, .string b, .bool c])
set_option maxHeartbeats 1000000 in
theorem cut1_any (l : List UInt8) (hl : l.length ≤ 1000000000) (w0 w : World) (hr : Rel w0 w) : Calls Tryd.prog 48 #[.string (B l), .string ⟨#[58]⟩] w fun e w' => (∃ c, Three e (B (hd 58 l)) (B (tl 58 l)) c) ∧ Rel w0 w' := by
  by_cases h : (58 : UInt8) ∈ l
  · obtain ⟨a, t, h1, h2⟩ := part_at h
    have hi := fun w => idx58_any l w
    have hx : indexByte l 58 = a.length := by rw [h2, idx_at h1]
    rw [hx] at hi
    have e1 : hd 58 l = a := by rw [h2, hd_at h1]
    have e2 : tl 58 l = t := by rw [h2, tl_at h1]
    have hln : l.length = a.length + (t.length + 1) := by rw [h2, List.length_append, List.length_cons]
    have z : (B l).size = l.length := B_size l
    have E1 := (show (B l).extract 0 a.length = B a by rw [h2, ← B_of ((B (a ++ 58 :: t)).extract 0 a.length), tok_list, B_list]; simp)
    have E2 := (show (B l).extract (a.length + 1) (a.length + (t.length + 1)) = B t by rw [← B_of ((B l).extract (a.length + 1) (a.length + (t.length + 1))), tok_list, B_list, h2, List.drop_append, List.drop_of_length_le (by omega), List.nil_append, show a.length + 1 - a.length = 1 by omega]; show B (List.take _ t) = B t; rw [List.take_of_length_le (by omega)])
    rw [e1, e2]
    clear e1 e2 hx h2 h
    go_enter Tryd.func48, Tryd.ntmps48
    go_wp2_with (go_at_call 57; refine (hi _).mono ?_; rintro e w' ⟨rfl, rfl⟩)
    go_quiet (fail)
    go_wp2
    go_ret3
    exact ⟨⟨true, rfl⟩, hr.drewN _⟩
  · have hi := fun w => idx58_any l w
    rw [idx_no h] at hi
    rw [hd_no h, tl_no h]
    go_enter Tryd.func48, Tryd.ntmps48
    go_wp2_with (go_at_call 57; refine (hi _).mono ?_; rintro e w' ⟨rfl, rfl⟩)
    go_ret3
    exact ⟨⟨false, rfl⟩, hr⟩
theorem cut_any (l : List UInt8) (hl : l.length ≤ 1000000000) (w0 w : World) (hr : Rel w0 w) : Calls Tryd.prog 43 #[.string (B l), .string ⟨#[58]⟩] w fun e w' => (∃ c, Three e (B (hd 58 l)) (B (tl 58 l)) c) ∧ Rel w0 w' := by
  have hc := Lib.hid (cut1_any l hl)
  go_enter Tryd.func43, Tryd.ntmps43
  go_wp2_with (go_at_call 48; refine (hc.out _ _ hr).mono ?_; rintro e w' ⟨⟨c, rfl⟩, hr'⟩)
  go_ret3
  exact ⟨⟨c, rfl⟩, hr'⟩
/-- A number with an error beside it, or none. -/
def NumErr (e : Ending) (l : List UInt8) : Prop := (∃ v, atoiAll l = .ok v ∧ e = .returned (.tuple #[.int .i64 v, .nilIface])) ∨ ((∀ v, atoiAll l ≠ .ok v) ∧ ∃ (v : Int) (t : TypeId) (p : Value), e = .returned (.tuple #[.int .i64 v, .iface t p]))
theorem atoi_any (l : List UInt8) (hl : l.length ≤ 1000000000) (w0 w : World) (hr : Rel w0 w) : Calls Tryd.prog 45 #[.string (B l)] w fun e w' => NumErr e l ∧ Rel w0 w' := by
  have hz : (B l).size = l.length := B_size l
  have ht := hr.tab
  cases ha : atoiAll l
  · rename_i v
    refine (Tryd.strconv_Atoi_ok (B l) (by omega) v (by rw [B_list]; exact ha) w).mono ?_
    rintro e w' ⟨rfl, hw⟩
    refine ⟨.inl ⟨v, ha, rfl⟩, ?_⟩
    rcases hw with rfl | ⟨t, rfl⟩
    · exact hr
    · exact hr.step (Lib.bytesWorld_below _ _ _)
  · obtain ⟨ev, h1, h2⟩ := ht.2.1
    refine (Any.strconv_Atoi_syntax Tryd.laysC172 (B l) (by omega) (by rw [B_list]; exact ha) ev w h1 h2).mono ?_
    rintro e w' ⟨N, rfl, _, _, hw⟩
    exact ⟨.inr ⟨fun v hv => (by rw [ha] at hv; cases hv), _, _, _, rfl⟩, hr.step hw⟩
  · obtain ⟨ev, h1, h2⟩ := ht.2.2
    refine (Any.strconv_Atoi_range Tryd.laysC172 (B l) (by omega) (by rw [B_list]; exact ha) ev w h1 h2).mono ?_
    rintro e w' ⟨N, rfl, _, _, hw⟩
    exact ⟨.inr ⟨fun v hv => (by rw [ha] at hv; cases hv), _, _, _, rfl⟩, hr.step hw⟩
end Go.Proofs.YtjbbfcomgglhiaaDoor
