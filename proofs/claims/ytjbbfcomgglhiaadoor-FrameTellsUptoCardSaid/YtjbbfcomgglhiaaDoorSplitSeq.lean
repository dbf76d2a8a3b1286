/- The library's SplitSeq over blanks, and a loop over it: the iterator keeps what is left in a variable of its own. -/
import Derived.Test.YtjbbfcomgglhiaaDoorSplitLeaf
namespace Go.Proofs.YtjbbfcomgglhiaaDoor
open Go.RowKit
open Go.Lib hiding intOf
set_option linter.unusedVariables false
set_option linter.unusedSimpArgs false
attribute [local go_sem] Oper.semAt_some

/-- How much is left. -/
def leftAt (b : Nat) (w : World) : Nat := match w.cell? ⟨b, 0, none⟩ with
  | some (.string s) => s.size
  | _ => 0
theorem leftAt_eq {b : Nat} {w : World} {t : TypeId} {s : ByteArray} (h : Boxed w b t (.string s)) : leftAt b w = s.size := by
  unfold leftAt; rw [h.cell]
set_option maxRecDepth 100000 in
set_option maxHeartbeats 4000000 in
theorem split_in (n : Nat) (hn : 1 ≤ n) (l bp bs bz : Nat) (hnp : bp ≠ bs) (hnz : bz ≠ bs) (xs : List UInt8) (hxs : xs.length ≤ 1000000000) (J : List (List UInt8) → World → Prop) (Jx : World → Prop)
    (hJs : ∀ pre W u, J pre W → J pre (W.setCell ⟨bs, 0, none⟩ (.string u)))
    (hJb : ∀ pre W, J pre W → Boxed W bp 9 (.string ⟨#[32]⟩) ∧ Boxed W bz 3 (.int .i64 0))
    (hY : ∀ pre x s W, J pre W → Boxed W bs 9 s → (∃ rest, flds xs = pre ++ x :: rest) → YieldAt Fence.wide (n - 1) Tryd.prog l #[.string (B x)] W fun e W' =>
      (e = .returned (.bool true) ∧ J (pre ++ [x]) W' ∧ Boxed W' bs 9 s) ∨ (e = .returned (.bool false) ∧ Jx W'))
    (W : World) (h0 : J [] W) (hB : Boxed W bs 9 (.string (B xs))) :
    CallsIn Fence.wide n Tryd.prog 58 #[.func (.yield l) #[] #[], .pointer (some ⟨bp, 0, none⟩), .pointer (some ⟨bs, 0, none⟩), .pointer (some ⟨bz, 0, none⟩)] W fun e W' => (∃ v, e = .returned v) ∧ (J (flds xs) W' ∨ Jx W') := by
  have HY := Lib.hid hY
  have HJs := Lib.hid hJs
  have HJb := Lib.hid hJb
  have H0 := Lib.hid h0
  have HB := Lib.hid hB
  obtain ⟨q0, r0⟩ := hJb _ _ h0
  have p1 := q0.cell
  clear hY hJs hJb h0 hB q0 r0
  refine callsIn_of_wp Tryd.func58 rfl trivial ?_ rfl
  simp only [Tryd.ntmps58, List.size_toArray, List.length_cons, List.length_nil, Nat.reduceAdd, Nat.reduceSub, Array.replicate_succ, Array.replicate_zero, List.push_toArray, List.append_toArray, List.nil_append, List.cons_append]
  gi_wp2
  gi_loopw [] (fun wr => ∃ (pre : List (List UInt8)) (rest : List UInt8), Hid (flds xs = pre ++ flds rest) ∧ rest.length ≤ xs.length ∧ Hid (J pre wr) ∧ Hid (Boxed wr bs 9 (.string (B rest)))) (fun wr => leftAt bs wr)
  case atStart => exact ⟨[], xs, Lib.hid rfl, Nat.le_refl _, H0, HB⟩
  case round =>
    obtain ⟨pre, rest, HF, hlen, HJ, HBs⟩ := hrel
    obtain ⟨q0, r0⟩ := HJb.out _ _ HJ.out
    have p1 := q0.cell
    have p2 := r0.cell
    have p3 := HBs.out.cell
    clear q0 r0
    by_cases h : (32 : UInt8) ∈ rest
    · obtain ⟨a, t, h1, h2⟩ := part_at h
      have hln : rest.length = a.length + (t.length + 1) := by rw [h2, List.length_append, List.length_cons]
      have z : (B rest).size = a.length + (t.length + 1) := by rw [B_size, hln]
      have E1 : (B rest).extract 0 a.length = B a := by rw [h2, ← B_of ((B (a ++ 32 :: t)).extract 0 a.length), tok_list, B_list]; simp
      have E2 : (B rest).extract (a.length + 1) (a.length + (t.length + 1)) = B t := by rw [← B_of ((B rest).extract (a.length + 1) (a.length + (t.length + 1))), tok_list, B_list, h2, List.drop_append, List.drop_of_length_le (by omega), List.nil_append, show a.length + 1 - a.length = 1 by omega]; show B (List.take _ t) = B t; rw [List.take_of_length_le (by omega)]
      have hfr : flds rest = a :: flds t := by rw [h2, flds_at h1]
      have hfx : flds xs = pre ++ a :: flds t := by rw [HF.out, hfr]
      have HFX := Lib.hid hfx
      have hi := fun w => idx_any rest w
      rw [show indexByte rest 32 = a.length by rw [h2, idx_at h1]] at hi
      obtain ⟨fn, tmps, assign, body, hy, hR⟩ := HY.out pre a _ wr HJ.out HBs.out ⟨flds t, hfx⟩
      have HH2 := Lib.hid h2
      clear hfx hfr h2 h
      gi_wp2_with (refine ⟨trivial, ?_⟩; gi_at_call 60; refine (callsIn_wide.2 (hi _)).mono ?_; rintro e w' ⟨rfl, rfl⟩)
      refine hR.mono ?_
      rintro e W3 (⟨rfl, hJ3, hB3⟩ | ⟨rfl, hx3⟩)
      · obtain ⟨q3, r3⟩ := HJb.out _ _ hJ3
        have p4 := q3.cell
        have p5 := hB3.cell
        have p6 := hB3.frozen
        have HJ3 := Lib.hid hJ3
        have HB3 := Lib.hid hB3
        clear q3 r3 hJ3 hB3
        gi_wp2
        go_roundw
        case rel => exact ⟨pre ++ [a], t, Lib.hid (by rw [HFX.out]; simp), by omega, Lib.hid (HJs.out _ _ _ HJ3.out), Lib.hid (HB3.out.set _)⟩
        case measure =>
          rw [leftAt_eq (HB3.out.set _), leftAt_eq HBs.out, z, B_size]
          omega
      · gi_wp2
        refine bodyPost_ret (results_none rfl _ _ _) rfl ?_
        exact ⟨⟨_, rfl⟩, .inr hx3⟩
    · have hfr : flds rest = [rest] := flds_no h
      have hfx : flds xs = pre ++ [rest] := by rw [HF.out, hfr]
      have HFX := Lib.hid hfx
      have hi := fun w => idx_any rest w
      rw [show indexByte rest 32 = -1 by rw [idx_no h]] at hi
      obtain ⟨fn, tmps, assign, body, hy, hR⟩ := HY.out pre rest _ wr HJ.out HBs.out ⟨[], hfx⟩
      clear hfx hfr h
      gi_wp2_with (refine ⟨trivial, ?_⟩; gi_at_call 60; refine (callsIn_wide.2 (hi _)).mono ?_; rintro e w' ⟨rfl, rfl⟩)
      refine hR.mono ?_
      rintro e W3 (⟨rfl, hJ3, hB3⟩ | ⟨rfl, hx3⟩)
      · gi_wp2
        go_end0
        exact ⟨⟨_, rfl⟩, .inl (by rw [HFX.out]; exact hJ3)⟩
      · gi_wp2
        go_end0
        exact ⟨⟨_, rfl⟩, .inr hx3⟩
end Go.Proofs.YtjbbfcomgglhiaaDoor
