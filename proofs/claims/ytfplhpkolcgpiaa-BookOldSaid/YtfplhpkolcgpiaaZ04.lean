/- The landed with: a list in which one stands where the first of its name did, or behind all others. -/
import Derived.Test.YtfplhpkolcgpiaaZL
import Derived.Test.YtfplhpkolcgpiaaZ00
import Derived.Test.YtfplhpkolcgpiaaZ01
import Derived.Test.YtfplhpkolcgpiaaZ02
import Derived.Test.YtfplhpkolcgpiaaZ03
namespace Go.Proofs.Ytfplhpkolcgpiaa
open Go.RowKit Go.Lib
set_option linter.unusedVariables false
set_option linter.unusedSimpArgs false
theorem flat2_both {b : List Sn} {i : Nat} (hi : i < b.length) (y : Sn) : (((b.flatMap cl2).set (i * 2) (.string (B y.1))).set (i * 2 + 1) (.int .i64 y.2)) = (b.set i y).flatMap cl2 := by
  induction b generalizing i with
  | nil => simp at hi
  | cons z r ih =>
    rw [List.flatMap_cons]
    cases i with
    | zero => rfl
    | succ i =>
      have e : cl2 z = [.string (B z.1), .int .i64 z.2] := rfl
      rw [e, show (i + 1) * 2 = i * 2 + 2 by omega]
      show _ = ((z :: r.set i y)).flatMap cl2
      rw [List.flatMap_cons, ← ih (by simpa using hi), e]
      rfl
theorem at_no {b : List Sl} {s : List UInt8} {r : Int} (h : AtIs b s r) (hn : hasB b s = false) : r = -1 := by
  rcases h with ⟨h, _⟩ | ⟨i, _, hi, he, _⟩
  · exact h
  · exact absurd he (hasB_no hn _ (List.getElem_mem hi))
theorem sn_no {b : List Sn} {s : List UInt8} {r : Int} (h : SnIs b s r) (hn : ∀ k (hk : k < b.length), b[k].1 ≠ s) : r = -1 := by
  rcases h with ⟨h, _⟩ | ⟨i, _, hi, he, _⟩
  · exact h
  · exact absurd he (hn i hi)
theorem at_yes {b : List Sl} {s : List UInt8} {r : Int} (h : AtIs b s r) {i : Nat} (hi : i < b.length) (he : b[i].1 = s) (hk : ∀ k (hk : k < b.length), k < i → b[k].1 ≠ s) : r = (i : Int) := by
  rcases h with ⟨_, h⟩ | ⟨j, rfl, hj, hje, hjk⟩
  · exact absurd he (hasB_no h _ (List.getElem_mem hi))
  · rcases Nat.lt_trichotomy i j with h | h | h
    · exact absurd he (hjk i hi h)
    · rw [h]
    · exact absurd hje (hk j hj h)
theorem sn_yes {b : List Sn} {s : List UInt8} {r : Int} (h : SnIs b s r) {i : Nat} (hi : i < b.length) (he : b[i].1 = s) (hk : ∀ k (hk : k < b.length), k < i → b[k].1 ≠ s) : r = (i : Int) := by
  rcases h with ⟨_, h⟩ | ⟨j, rfl, hj, hje, hjk⟩
  · exact absurd he (h i hi)
  · rcases Nat.lt_trichotomy i j with h | h | h
    · exact absurd he (hjk i hi h)
    · rw [h]
    · exact absurd hje (hk j hj h)
set_option maxRecDepth 100000 in
set_option maxHeartbeats 4000000 in
theorem with_full_slot (b : List Sl) (s : List UInt8) (S : ByteArray) (hS : B s = S) (p t : Int) (A : Option Addr) (c : Nat) (w : World) (hr : Rel w w) (hb : SlArg w A c b) (hn : hasB b s = false) (h8 : 8 ≤ b.length) :
    Calls Try.prog 32 #[.slice A b.length c, .agg #[.string S, .int .i64 p, .int .i64 t], .func (.func 33) #[] #[], .int .i64 8] w fun e w' => e = .returned (.tuple #[.slice none 0 0, .int .i64 50]) ∧ Rel w w' := by
  obtain ⟨hA, _, hlen, _, hat⟩ := hb
  have hen := enter_seller
  have HB := Lib.hid hat
  have HA := Lib.hid hA
  have HR := Lib.hid hr
  have HS := Lib.hid hS
  have HXo := Lib.hid (Bk.new w 50 #[.string S, .int .i64 p, .int .i64 t])
  have R1 := Lib.hid (hr.alloc (.cells #[.string S, .int .i64 p, .int .i64 t] 50))
  have HF := Lib.hid (fun (w : World) (hr : Rel w w) (hb : RowAt cl3 3 w A b) => first_slot b s S hS A c w hr hb (by omega))
  have HN := Lib.hid hn
  have h8' : (8 : Int) ≤ (b.length : Int) := by omega
  clear hn
  obtain ⟨gx, hgx⟩ : ∃ g, w.heap.size = g := ⟨_, rfl⟩
  obtain ⟨W, hW⟩ : ∃ W, w.alloc (.cells #[.string S, .int .i64 p, .int .i64 t] 50) = W := ⟨_, rfl⟩
  rw [hW] at HXo R1
  rw [hgx] at HXo
  clear hA hat hr hS
  go_enter Try.func32, Try.ntmps32
  go_upto_region 1 with (fail)
  try rw [hW]
  try rw [hgx]
  clear hW
  have x0 : W.cell? ⟨gx, 0, none⟩ = some (.string S) := HXo.out.cell 0
  have x1 : W.cell? ⟨gx, 1, none⟩ = some (.int .i64 p) := HXo.out.cell 1
  have x2 : W.cell? ⟨gx, 2, none⟩ = some (.int .i64 t) := HXo.out.cell 2
  have B1 := Lib.hid (HB.out.rel R1.out)
  have U1 := Lib.hid R1.out.self
  go_upto_region 2 with (first
    | (go_at_fn 33; (with_reducible refine (seller_of S p t W W U1.out).mono ?_); rintro e w2 ⟨rfl, r1⟩; have R2 := Lib.hid (R1.out.trans r1); have HX2 := Lib.hid (HXo.out.rel r1); have B2 := Lib.hid (HB.out.rel R2.out); have U2 := Lib.hid r1.self; clear r1)
    | (go_at_call 40; (with_reducible refine (HF.out _ R2.out.self B2.out).mono ?_); rintro e w3 ⟨r, rfl, ha, r1⟩; have R3 := Lib.hid (R2.out.trans r1); have HX3 := Lib.hid (HX2.out.rel r1); have B3 := Lib.hid (HB.out.rel R3.out); have HAt := Lib.hid ha.out; have U3 := Lib.hid r1.self; clear r1 ha))
  have sz3 := R3.out.size
  have hr1 := at_no HAt.out HN.out
  subst hr1
  go_wp2_with (fail)
  go_ret2
  exact ⟨rfl, R3.out⟩
set_option maxRecDepth 100000 in
set_option maxHeartbeats 4000000 in
theorem with_new_slot (b : List Sl) (s : List UInt8) (S : ByteArray) (hS : B s = S) (p t : Int) (A : Option Addr) (c : Nat) (w : World) (hr : Rel w w) (hb : SlArg w A c b) (hn : hasB b s = false) (h8 : b.length < 8) :
    Calls Try.prog 32 #[.slice A b.length c, .agg #[.string S, .int .i64 p, .int .i64 t], .func (.func 33) #[] #[], .int .i64 8] w fun e w' => ∃ A2 c2, e = .returned (.tuple #[.slice A2 (b ++ [(s, p, t)]).length c2, .int .i64 0]) ∧ BkOwn w' w.heap.size (.slice A2 (b ++ [(s, p, t)]).length c2) (b ++ [(s, p, t)]) ∧ Rel w w' := by
  obtain ⟨hA, _, hlen, _, hat⟩ := hb
  have hen := enter_seller
  have HB := Lib.hid hat
  have HA := Lib.hid hA
  have HR := Lib.hid hr
  have HS := Lib.hid hS
  have HXo := Lib.hid (Bk.new w 50 #[.string S, .int .i64 p, .int .i64 t])
  have R1 := Lib.hid (hr.alloc (.cells #[.string S, .int .i64 p, .int .i64 t] 50))
  have HF := Lib.hid (fun (w : World) (hr : Rel w w) (hb : RowAt cl3 3 w A b) => first_slot b s S hS A c w hr hb (by omega))
  have HN := Lib.hid hn
  have h8' : (b.length : Int) < 8 := by omega
  have HL := Lib.hid (show (b ++ [(s, p, t)]).length = b.length + 1 by simp)
  have HC := Lib.hid (show cl3 (s, p, t) = [.string S, .int .i64 p, .int .i64 t] from by unfold cl3; rw [← hS])
  clear hn
  obtain ⟨gx, hgx⟩ : ∃ g, w.heap.size = g := ⟨_, rfl⟩
  obtain ⟨W, hW⟩ : ∃ W, w.alloc (.cells #[.string S, .int .i64 p, .int .i64 t] 50) = W := ⟨_, rfl⟩
  rw [hW] at HXo R1
  rw [hgx] at HXo
  clear hA hat hr hS
  go_enter Try.func32, Try.ntmps32
  go_upto_region 1 with (fail)
  try rw [hW]
  try rw [hgx]
  clear hW
  have x0 : W.cell? ⟨gx, 0, none⟩ = some (.string S) := HXo.out.cell 0
  have x1 : W.cell? ⟨gx, 1, none⟩ = some (.int .i64 p) := HXo.out.cell 1
  have x2 : W.cell? ⟨gx, 2, none⟩ = some (.int .i64 t) := HXo.out.cell 2
  have B1 := Lib.hid (HB.out.rel R1.out)
  have U1 := Lib.hid R1.out.self
  go_upto_region 2 with (first
    | (go_at_fn 33; (with_reducible refine (seller_of S p t W W U1.out).mono ?_); rintro e w2 ⟨rfl, r1⟩; have R2 := Lib.hid (R1.out.trans r1); have HX2 := Lib.hid (HXo.out.rel r1); have B2 := Lib.hid (HB.out.rel R2.out); have U2 := Lib.hid r1.self; clear r1)
    | (go_at_call 40; (with_reducible refine (HF.out _ R2.out.self B2.out).mono ?_); rintro e w3 ⟨r, rfl, ha, r1⟩; have R3 := Lib.hid (R2.out.trans r1); have HX3 := Lib.hid (HX2.out.rel r1); have B3 := Lib.hid (HB.out.rel R3.out); have HAt := Lib.hid ha.out; have U3 := Lib.hid r1.self; clear r1 ha))
  have sz3 := R3.out.size
  have hr1 := at_no HAt.out HN.out
  subst hr1
  obtain ⟨q0, q1, q2⟩ : w3.cell? ⟨gx, 0, none⟩ = some (.string S) ∧ w3.cell? ⟨gx, 1, none⟩ = some (.int .i64 p) ∧ w3.cell? ⟨gx, 2, none⟩ = some (.int .i64 t) := ⟨HX3.out.cell 0, HX3.out.cell 1, HX3.out.cell 2⟩
  have BY := Lib.hid (Bk.new w3 50 #[.string S, .int .i64 p, .int .i64 t])
  have BL := Lib.hid (Bk.new (w3.alloc (.cells #[.string S, .int .i64 p, .int .i64 t] 50)) 23 #[.slice A b.length c, .slice (some ⟨w3.heap.size, 0, none⟩) 1 1])
  have R4 := Lib.hid ((U3.out.alloc (.cells #[.string S, .int .i64 p, .int .i64 t] 50)).alloc (.cells #[.slice A b.length c, .slice (some ⟨w3.heap.size, 0, none⟩) 1 1] 23))
  have B4 := Lib.hid (B3.out.rel R4.out)
  have D4 := Lib.hid (show RowAt cl3 3 ((w3.alloc (.cells #[.string S, .int .i64 p, .int .i64 t] 50)).alloc (.cells #[.slice A b.length c, .slice (some ⟨w3.heap.size, 0, none⟩) 1 1] 23)) (some ⟨w3.heap.size, 0, none⟩) [(s, p, t)] from RowAt.of_bk cl3_len (T := 50) (by rw [List.flatMap_cons, List.flatMap_nil, List.append_nil, HC.out]; exact BY.out.alloc _))
  have HCc := Lib.hid (concat_slot b [(s, p, t)] A (some ⟨w3.heap.size, 0, none⟩) c 1 (w3.heap.size + 1) ((w3.alloc (.cells #[.string S, .int .i64 p, .int .i64 t] 50)).alloc (.cells #[.slice A b.length c, .slice (some ⟨w3.heap.size, 0, none⟩) 1 1] 23)) R4.out.self B4.out HA.out D4.out (fun e => by cases e) (by simp; omega) (by have h := BL.out; rw [World.size_alloc] at h; exact h))
  go_wp2_with (go_at_call 42; (with_reducible refine HCc.out.mono ?_); rintro e w5 ⟨A5, c5, rfl, o5, r5⟩; have O5 := Lib.hid o5; have R5 := Lib.hid r5; clear o5 r5)
  go_ret2
  refine ⟨A5, c5, by first | rfl | simp, ?_, R3.out.trans (R4.out.trans R5.out)⟩
  exact row_own_mono O5.out (by rw [World.size_alloc, World.size_alloc]; omega)
set_option maxRecDepth 100000 in
set_option maxHeartbeats 4000000 in
theorem with_set_slot (b : List Sl) (s : List UInt8) (S : ByteArray) (hS : B s = S) (p t : Int) (A : Option Addr) (c : Nat) (w : World) (hr : Rel w w) (hb : SlArg w A c b) (i : Nat) (hi : i < b.length) (he : b[i].1 = s) (hk : ∀ k (hk : k < b.length), k < i → b[k].1 ≠ s) :
    Calls Try.prog 32 #[.slice A b.length c, .agg #[.string S, .int .i64 p, .int .i64 t], .func (.func 33) #[] #[], .int .i64 8] w fun e w' => ∃ A2 c2, e = .returned (.tuple #[.slice A2 b.length c2, .int .i64 0]) ∧ BkOwn w' w.heap.size (.slice A2 b.length c2) (b.set i (s, p, t)) ∧ Rel w w' := by
  have HBa := Lib.hid hb
  obtain ⟨hA, _, hlen, _, hat⟩ := hb
  have hen := enter_seller
  have HB := Lib.hid hat
  have HA := Lib.hid hA
  have HR := Lib.hid hr
  have HS := Lib.hid hS
  have HXo := Lib.hid (Bk.new w 50 #[.string S, .int .i64 p, .int .i64 t])
  have R1 := Lib.hid (hr.alloc (.cells #[.string S, .int .i64 p, .int .i64 t] 50))
  have HF := Lib.hid (fun (w : World) (hr : Rel w w) (hb : RowAt cl3 3 w A b) => first_slot b s S hS A c w hr hb (by omega))
  have HYes := Lib.hid (fun (r : Int) (h : AtIs b s r) => at_yes h hi he hk)
  have HArg := Lib.hid (fun (w' : World) (h : Rel w w') => HBa.out.rel h)
  have HFl := Lib.hid (flat3_set hi (s, p, t))
  have hi' : (i : Int) < (b.length : Int) := by omega
  obtain ⟨gx, hgx⟩ : ∃ g, w.heap.size = g := ⟨_, rfl⟩
  obtain ⟨W, hW⟩ : ∃ W, w.alloc (.cells #[.string S, .int .i64 p, .int .i64 t] 50) = W := ⟨_, rfl⟩
  rw [hW] at HXo R1
  rw [hgx] at HXo
  clear hA hat hr hS
  go_enter Try.func32, Try.ntmps32
  go_upto_region 1 with (fail)
  try rw [hW]
  try rw [hgx]
  clear hW
  have x0 : W.cell? ⟨gx, 0, none⟩ = some (.string S) := HXo.out.cell 0
  have x1 : W.cell? ⟨gx, 1, none⟩ = some (.int .i64 p) := HXo.out.cell 1
  have x2 : W.cell? ⟨gx, 2, none⟩ = some (.int .i64 t) := HXo.out.cell 2
  have B1 := Lib.hid (HB.out.rel R1.out)
  have U1 := Lib.hid R1.out.self
  go_upto_region 2 with (first
    | (go_at_fn 33; (with_reducible refine (seller_of S p t W W U1.out).mono ?_); rintro e w2 ⟨rfl, r1⟩; have R2 := Lib.hid (R1.out.trans r1); have HX2 := Lib.hid (HXo.out.rel r1); have B2 := Lib.hid (HB.out.rel R2.out); have U2 := Lib.hid r1.self; clear r1)
    | (go_at_call 40; (with_reducible refine (HF.out _ R2.out.self B2.out).mono ?_); rintro e w3 ⟨r, rfl, ha, r1⟩; have R3 := Lib.hid (R2.out.trans r1); have HX3 := Lib.hid (HX2.out.rel r1); have B3 := Lib.hid (HB.out.rel R3.out); have HAt := Lib.hid ha.out; have U3 := Lib.hid r1.self; clear r1 ha))
  have sz3 := R3.out.size
  have hr1 := HYes.out r HAt.out
  subst hr1
  have HCl := Lib.hid (clone_slot b A c w3 U3.out (HArg.out w3 R3.out))
  clear he hk
  go_upto_region 7 with (go_at_call 41; (with_reducible refine HCl.out.mono ?_); rintro e w4 ⟨A2, c2, rfl, o4, r4⟩; have O4 := Lib.hid o4; have R4 := Lib.hid r4; clear o4 r4)
  have HX4 := Lib.hid (HX3.out.rel R4.out)
  obtain ⟨q0, q1, q2⟩ : w4.cell? ⟨gx, 0, none⟩ = some (.string S) ∧ w4.cell? ⟨gx, 1, none⟩ = some (.int .i64 p) ∧ w4.cell? ⟨gx, 2, none⟩ = some (.int .i64 t) := ⟨HX4.out.cell 0, HX4.out.cell 1, HX4.out.cell 2⟩
  obtain ⟨g2, rfl, hg2⟩ : ∃ g2, A2 = some ⟨g2, 0, none⟩ ∧ w3.heap.size ≤ g2 := by
    rcases O4.out.2 with ⟨h0, _⟩ | ⟨g, cap, cur, hv, hb, _⟩
    · injection h0 with _ h0 _; omega
    · injection hv with hv _ _; exact ⟨g, hv, hb⟩
  have f0 := flat_at cl3_len b i hi 0 (by omega)
  have c0' := O4.out.row.cellAt (i * 3) (by omega)
  have z0 := O4.out.row.frozenAt (i * 3)
  rw [Nat.add_zero] at f0
  rw [f0] at c0'
  have f1 := flat_at cl3_len b i hi 1 (by omega)
  have c1' := O4.out.row.cellAt (i * 3 + 1) (by omega)
  have z1 := O4.out.row.frozenAt (i * 3 + 1)
  rw [f1] at c1'
  have f2 := flat_at cl3_len b i hi 2 (by omega)
  have c2' := O4.out.row.cellAt (i * 3 + 2) (by omega)
  have z2 := O4.out.row.frozenAt (i * 3 + 2)
  rw [f2] at c2'
  obtain ⟨x, hx⟩ : ∃ x, b[i] = x := ⟨_, rfl⟩
  rw [hx] at c0'
  have d0 : w4.cell? ⟨g2, i * 3, none⟩ = some (.string (B x.1)) := c0'
  rw [hx] at c1'
  have d1 : w4.cell? ⟨g2, i * 3 + 1, none⟩ = some (.int .i64 x.2.1) := c1'
  rw [hx] at c2'
  have d2 : w4.cell? ⟨g2, i * 3 + 2, none⟩ = some (.int .i64 x.2.2) := c2'
  clear hx f0 c0' f1 c1' f2 c2'
  obtain ⟨u0, hu0⟩ : ∃ u, B x.1 = u := ⟨_, rfl⟩
  rw [hu0] at d0
  obtain ⟨u1, hu1⟩ : ∃ u, x.2.1 = u := ⟨_, rfl⟩
  rw [hu1] at d1
  obtain ⟨u2, hu2⟩ : ∃ u, x.2.2 = u := ⟨_, rfl⟩
  rw [hu2] at d2
  clear hu0 hu1 hu2
  have O5 := Lib.hid ((((O4.out.row.stored (i * 3) (.string S)).1.stored (i * 3 + 1) (.int .i64 p)).1.stored (i * 3 + 2) (.int .i64 t)).1)
  have RR := Lib.hid (R3.out.trans R4.out)
  go_wp2_with (fail)
  go_ret2
  refine ⟨_, c2, rfl, ?_, (((RR.out.setCell (p := ⟨g2, i * 3, none⟩) (Nat.le_trans sz3 hg2) _).setCell (p := ⟨g2, i * 3 + 1, none⟩) (Nat.le_trans sz3 hg2) _).setCell (p := ⟨g2, i * 3 + 2, none⟩) (Nat.le_trans sz3 hg2) _)⟩
  unfold BkOwn RowOwn
  rw [List.length_set, ← HFl.out, HS.out]
  exact own_mono O5.out sz3
set_option maxRecDepth 100000 in
set_option maxHeartbeats 4000000 in
theorem with_full_seen (b : List Sn) (s : List UInt8) (S : ByteArray) (hS : B s = S) (p : Int) (A : Option Addr) (c : Nat) (w : World) (hr : Rel w w) (hb : SnArg w A c b) (hn : ∀ k (hk : k < b.length), b[k].1 ≠ s) (h8 : 8 ≤ b.length) :
    Calls Try.prog 48 #[.slice A b.length c, .agg #[.string S, .int .i64 p], .func (.func 46) #[] #[], .int .i64 8] w fun e w' => e = .returned (.tuple #[.slice none 0 0, .int .i64 50]) ∧ Rel w w' := by
  obtain ⟨hA, _, hlen, _, hat⟩ := hb
  have hen := enter_source
  have HB := Lib.hid hat
  have HA := Lib.hid hA
  have HR := Lib.hid hr
  have HS := Lib.hid hS
  have HXo := Lib.hid (Bk.new w 72 #[.string S, .int .i64 p])
  have R1 := Lib.hid (hr.alloc (.cells #[.string S, .int .i64 p] 72))
  have HF := Lib.hid (fun (w : World) (hr : Rel w w) (hb : RowAt cl2 2 w A b) => first_seen b s S hS A c w hr hb (by omega))
  have HN := Lib.hid hn
  have h8' : (8 : Int) ≤ (b.length : Int) := by omega
  clear hn
  obtain ⟨gx, hgx⟩ : ∃ g, w.heap.size = g := ⟨_, rfl⟩
  obtain ⟨W, hW⟩ : ∃ W, w.alloc (.cells #[.string S, .int .i64 p] 72) = W := ⟨_, rfl⟩
  rw [hW] at HXo R1
  rw [hgx] at HXo
  clear hA hat hr hS
  go_enter Try.func48, Try.ntmps48
  go_upto_region 1 with (fail)
  try rw [hW]
  try rw [hgx]
  clear hW
  have x0 : W.cell? ⟨gx, 0, none⟩ = some (.string S) := HXo.out.cell 0
  have x1 : W.cell? ⟨gx, 1, none⟩ = some (.int .i64 p) := HXo.out.cell 1
  have B1 := Lib.hid (HB.out.rel R1.out)
  have U1 := Lib.hid R1.out.self
  go_upto_region 2 with (first
    | (go_at_fn 46; (with_reducible refine (source_of S p W W U1.out).mono ?_); rintro e w2 ⟨rfl, r1⟩; have R2 := Lib.hid (R1.out.trans r1); have HX2 := Lib.hid (HXo.out.rel r1); have B2 := Lib.hid (HB.out.rel R2.out); have U2 := Lib.hid r1.self; clear r1)
    | (go_at_call 45; (with_reducible refine (HF.out _ R2.out.self B2.out).mono ?_); rintro e w3 ⟨r, rfl, ha, r1⟩; have R3 := Lib.hid (R2.out.trans r1); have HX3 := Lib.hid (HX2.out.rel r1); have B3 := Lib.hid (HB.out.rel R3.out); have HAt := Lib.hid ha.out; have U3 := Lib.hid r1.self; clear r1 ha))
  have sz3 := R3.out.size
  have hr1 := sn_no HAt.out HN.out
  subst hr1
  go_wp2_with (fail)
  go_ret2
  exact ⟨rfl, R3.out⟩
set_option maxRecDepth 100000 in
set_option maxHeartbeats 4000000 in
theorem with_new_seen (b : List Sn) (s : List UInt8) (S : ByteArray) (hS : B s = S) (p : Int) (A : Option Addr) (c : Nat) (w : World) (hr : Rel w w) (hb : SnArg w A c b) (hn : ∀ k (hk : k < b.length), b[k].1 ≠ s) (h8 : b.length < 8) :
    Calls Try.prog 48 #[.slice A b.length c, .agg #[.string S, .int .i64 p], .func (.func 46) #[] #[], .int .i64 8] w fun e w' => ∃ A2 c2, e = .returned (.tuple #[.slice A2 (b ++ [(s, p)]).length c2, .int .i64 0]) ∧ SnOwn w' w.heap.size (.slice A2 (b ++ [(s, p)]).length c2) (b ++ [(s, p)]) ∧ Rel w w' := by
  obtain ⟨hA, _, hlen, _, hat⟩ := hb
  have hen := enter_source
  have HB := Lib.hid hat
  have HA := Lib.hid hA
  have HR := Lib.hid hr
  have HS := Lib.hid hS
  have HXo := Lib.hid (Bk.new w 72 #[.string S, .int .i64 p])
  have R1 := Lib.hid (hr.alloc (.cells #[.string S, .int .i64 p] 72))
  have HF := Lib.hid (fun (w : World) (hr : Rel w w) (hb : RowAt cl2 2 w A b) => first_seen b s S hS A c w hr hb (by omega))
  have HN := Lib.hid hn
  have h8' : (b.length : Int) < 8 := by omega
  have HL := Lib.hid (show (b ++ [(s, p)]).length = b.length + 1 by simp)
  have HC := Lib.hid (show cl2 (s, p) = [.string S, .int .i64 p] from by unfold cl2; rw [← hS])
  clear hn
  obtain ⟨gx, hgx⟩ : ∃ g, w.heap.size = g := ⟨_, rfl⟩
  obtain ⟨W, hW⟩ : ∃ W, w.alloc (.cells #[.string S, .int .i64 p] 72) = W := ⟨_, rfl⟩
  rw [hW] at HXo R1
  rw [hgx] at HXo
  clear hA hat hr hS
  go_enter Try.func48, Try.ntmps48
  go_upto_region 1 with (fail)
  try rw [hW]
  try rw [hgx]
  clear hW
  have x0 : W.cell? ⟨gx, 0, none⟩ = some (.string S) := HXo.out.cell 0
  have x1 : W.cell? ⟨gx, 1, none⟩ = some (.int .i64 p) := HXo.out.cell 1
  have B1 := Lib.hid (HB.out.rel R1.out)
  have U1 := Lib.hid R1.out.self
  go_upto_region 2 with (first
    | (go_at_fn 46; (with_reducible refine (source_of S p W W U1.out).mono ?_); rintro e w2 ⟨rfl, r1⟩; have R2 := Lib.hid (R1.out.trans r1); have HX2 := Lib.hid (HXo.out.rel r1); have B2 := Lib.hid (HB.out.rel R2.out); have U2 := Lib.hid r1.self; clear r1)
    | (go_at_call 45; (with_reducible refine (HF.out _ R2.out.self B2.out).mono ?_); rintro e w3 ⟨r, rfl, ha, r1⟩; have R3 := Lib.hid (R2.out.trans r1); have HX3 := Lib.hid (HX2.out.rel r1); have B3 := Lib.hid (HB.out.rel R3.out); have HAt := Lib.hid ha.out; have U3 := Lib.hid r1.self; clear r1 ha))
  have sz3 := R3.out.size
  have hr1 := sn_no HAt.out HN.out
  subst hr1
  obtain ⟨q0, q1⟩ : w3.cell? ⟨gx, 0, none⟩ = some (.string S) ∧ w3.cell? ⟨gx, 1, none⟩ = some (.int .i64 p) := ⟨HX3.out.cell 0, HX3.out.cell 1⟩
  have BY := Lib.hid (Bk.new w3 72 #[.string S, .int .i64 p])
  have BL := Lib.hid (Bk.new (w3.alloc (.cells #[.string S, .int .i64 p] 72)) 43 #[.slice A b.length c, .slice (some ⟨w3.heap.size, 0, none⟩) 1 1])
  have R4 := Lib.hid ((U3.out.alloc (.cells #[.string S, .int .i64 p] 72)).alloc (.cells #[.slice A b.length c, .slice (some ⟨w3.heap.size, 0, none⟩) 1 1] 43))
  have B4 := Lib.hid (B3.out.rel R4.out)
  have D4 := Lib.hid (show RowAt cl2 2 ((w3.alloc (.cells #[.string S, .int .i64 p] 72)).alloc (.cells #[.slice A b.length c, .slice (some ⟨w3.heap.size, 0, none⟩) 1 1] 43)) (some ⟨w3.heap.size, 0, none⟩) [(s, p)] from RowAt.of_bk cl2_len (T := 72) (by rw [List.flatMap_cons, List.flatMap_nil, List.append_nil, HC.out]; exact BY.out.alloc _))
  have HCc := Lib.hid (concat_seen b [(s, p)] A (some ⟨w3.heap.size, 0, none⟩) c 1 (w3.heap.size + 1) ((w3.alloc (.cells #[.string S, .int .i64 p] 72)).alloc (.cells #[.slice A b.length c, .slice (some ⟨w3.heap.size, 0, none⟩) 1 1] 43)) R4.out.self B4.out HA.out D4.out (fun e => by cases e) (by simp; omega) (by have h := BL.out; rw [World.size_alloc] at h; exact h))
  go_wp2_with (go_at_call 64; (with_reducible refine HCc.out.mono ?_); rintro e w5 ⟨A5, c5, rfl, o5, r5⟩; have O5 := Lib.hid o5; have R5 := Lib.hid r5; clear o5 r5)
  go_ret2
  refine ⟨A5, c5, by first | rfl | simp, ?_, R3.out.trans (R4.out.trans R5.out)⟩
  exact row_own_mono O5.out (by rw [World.size_alloc, World.size_alloc]; omega)
set_option maxRecDepth 100000 in
set_option maxHeartbeats 4000000 in
theorem with_set_seen (b : List Sn) (s : List UInt8) (S : ByteArray) (hS : B s = S) (p : Int) (A : Option Addr) (c : Nat) (w : World) (hr : Rel w w) (hb : SnArg w A c b) (i : Nat) (hi : i < b.length) (he : b[i].1 = s) (hk : ∀ k (hk : k < b.length), k < i → b[k].1 ≠ s) :
    Calls Try.prog 48 #[.slice A b.length c, .agg #[.string S, .int .i64 p], .func (.func 46) #[] #[], .int .i64 8] w fun e w' => ∃ A2 c2, e = .returned (.tuple #[.slice A2 b.length c2, .int .i64 0]) ∧ SnOwn w' w.heap.size (.slice A2 b.length c2) (b.set i (s, p)) ∧ Rel w w' := by
  have HBa := Lib.hid hb
  obtain ⟨hA, _, hlen, _, hat⟩ := hb
  have hen := enter_source
  have HB := Lib.hid hat
  have HA := Lib.hid hA
  have HR := Lib.hid hr
  have HS := Lib.hid hS
  have HXo := Lib.hid (Bk.new w 72 #[.string S, .int .i64 p])
  have R1 := Lib.hid (hr.alloc (.cells #[.string S, .int .i64 p] 72))
  have HF := Lib.hid (fun (w : World) (hr : Rel w w) (hb : RowAt cl2 2 w A b) => first_seen b s S hS A c w hr hb (by omega))
  have HYes := Lib.hid (fun (r : Int) (h : SnIs b s r) => sn_yes h hi he hk)
  have HArg := Lib.hid (fun (w' : World) (h : Rel w w') => HBa.out.rel h)
  have HFl := Lib.hid (flat2_both hi (s, p))
  have hi' : (i : Int) < (b.length : Int) := by omega
  obtain ⟨gx, hgx⟩ : ∃ g, w.heap.size = g := ⟨_, rfl⟩
  obtain ⟨W, hW⟩ : ∃ W, w.alloc (.cells #[.string S, .int .i64 p] 72) = W := ⟨_, rfl⟩
  rw [hW] at HXo R1
  rw [hgx] at HXo
  clear hA hat hr hS
  go_enter Try.func48, Try.ntmps48
  go_upto_region 1 with (fail)
  try rw [hW]
  try rw [hgx]
  clear hW
  have x0 : W.cell? ⟨gx, 0, none⟩ = some (.string S) := HXo.out.cell 0
  have x1 : W.cell? ⟨gx, 1, none⟩ = some (.int .i64 p) := HXo.out.cell 1
  have B1 := Lib.hid (HB.out.rel R1.out)
  have U1 := Lib.hid R1.out.self
  go_upto_region 2 with (first
    | (go_at_fn 46; (with_reducible refine (source_of S p W W U1.out).mono ?_); rintro e w2 ⟨rfl, r1⟩; have R2 := Lib.hid (R1.out.trans r1); have HX2 := Lib.hid (HXo.out.rel r1); have B2 := Lib.hid (HB.out.rel R2.out); have U2 := Lib.hid r1.self; clear r1)
    | (go_at_call 45; (with_reducible refine (HF.out _ R2.out.self B2.out).mono ?_); rintro e w3 ⟨r, rfl, ha, r1⟩; have R3 := Lib.hid (R2.out.trans r1); have HX3 := Lib.hid (HX2.out.rel r1); have B3 := Lib.hid (HB.out.rel R3.out); have HAt := Lib.hid ha.out; have U3 := Lib.hid r1.self; clear r1 ha))
  have sz3 := R3.out.size
  have hr1 := HYes.out r HAt.out
  subst hr1
  have HCl := Lib.hid (clone_seen b A c w3 U3.out (HArg.out w3 R3.out))
  clear he hk
  go_upto_region 7 with (go_at_call 47; (with_reducible refine HCl.out.mono ?_); rintro e w4 ⟨A2, c2, rfl, o4, r4⟩; have O4 := Lib.hid o4; have R4 := Lib.hid r4; clear o4 r4)
  have HX4 := Lib.hid (HX3.out.rel R4.out)
  obtain ⟨q0, q1⟩ : w4.cell? ⟨gx, 0, none⟩ = some (.string S) ∧ w4.cell? ⟨gx, 1, none⟩ = some (.int .i64 p) := ⟨HX4.out.cell 0, HX4.out.cell 1⟩
  obtain ⟨g2, rfl, hg2⟩ : ∃ g2, A2 = some ⟨g2, 0, none⟩ ∧ w3.heap.size ≤ g2 := by
    rcases O4.out.2 with ⟨h0, _⟩ | ⟨g, cap, cur, hv, hb, _⟩
    · injection h0 with _ h0 _; omega
    · injection hv with hv _ _; exact ⟨g, hv, hb⟩
  have f0 := flat_at cl2_len b i hi 0 (by omega)
  have c0' := O4.out.row.cellAt (i * 2) (by omega)
  have z0 := O4.out.row.frozenAt (i * 2)
  rw [Nat.add_zero] at f0
  rw [f0] at c0'
  have f1 := flat_at cl2_len b i hi 1 (by omega)
  have c1' := O4.out.row.cellAt (i * 2 + 1) (by omega)
  have z1 := O4.out.row.frozenAt (i * 2 + 1)
  rw [f1] at c1'
  obtain ⟨x, hx⟩ : ∃ x, b[i] = x := ⟨_, rfl⟩
  rw [hx] at c0'
  have d0 : w4.cell? ⟨g2, i * 2, none⟩ = some (.string (B x.1)) := c0'
  rw [hx] at c1'
  have d1 : w4.cell? ⟨g2, i * 2 + 1, none⟩ = some (.int .i64 x.2) := c1'
  clear hx f0 c0' f1 c1'
  obtain ⟨u0, hu0⟩ : ∃ u, B x.1 = u := ⟨_, rfl⟩
  rw [hu0] at d0
  obtain ⟨u1, hu1⟩ : ∃ u, x.2 = u := ⟨_, rfl⟩
  rw [hu1] at d1
  clear hu0 hu1
  have O5 := Lib.hid (((O4.out.row.stored (i * 2) (.string S)).1.stored (i * 2 + 1) (.int .i64 p)).1)
  have RR := Lib.hid (R3.out.trans R4.out)
  go_wp2_with (fail)
  go_ret2
  refine ⟨_, c2, rfl, ?_, ((RR.out.setCell (p := ⟨g2, i * 2, none⟩) (Nat.le_trans sz3 hg2) _).setCell (p := ⟨g2, i * 2 + 1, none⟩) (Nat.le_trans sz3 hg2) _)⟩
  unfold SnOwn RowOwn
  rw [List.length_set, ← HFl.out, HS.out]
  exact own_mono O5.out sz3
end Go.Proofs.Ytfplhpkolcgpiaa
