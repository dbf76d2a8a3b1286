/- The walk of SumChanged. -/
import Derived.Test.YtokepfcebkpnfaaSumLawC
import Derived.Lib.ConvBytes
import Derived.Deep.DeepCutAuto
namespace Go.Proofs.Ytokepfcebkpnfaa
open Go.RowKit Go.Lib
set_option linter.unusedVariables false
set_option linter.unusedSimpArgs false

theorem xor_same (c x : UInt8) : c ^^^ x = c ↔ x.toNat = 0 := by
  constructor
  · intro h
    have e := congrArg UInt8.toNat h
    rw [UInt8.toNat_xor] at e
    exact xinj (a := c.toNat) (by rw [e, Nat.xor_zero])
  · intro h
    refine u8_inj ?_
    rw [UInt8.toNat_xor, h, Nat.xor_zero]
theorem parted (l : List UInt8) (k : Nat) (h : k + 1 < l.length) : ∃ a c d r, l = a ++ c :: d :: r ∧ a.length = k := by
  refine ⟨l.take k, l[k], l[k + 1], l.drop (k + 2), ?_, by rw [List.length_take]; omega⟩
  rw [← List.drop_eq_getElem_cons (i := k + 1) h, ← List.drop_eq_getElem_cons (i := k) (by omega), List.take_append_drop]
theorem set_two (a r : List UInt8) (c d c' d' : UInt8) : ((a ++ c :: d :: r).set a.length c').set (a.length + 1) d' = a ++ c' :: d' :: r := by
  rw [List.set_append, if_neg (by omega), List.set_append, if_neg (by omega)]
  rw [show a.length - a.length = 0 by omega, show a.length + 1 - a.length = 1 by omega]
  rfl
/-- A text's sum and that of the text with two bytes turned. -/
theorem turned (l : List UInt8) (k : Nat) (h : k + 1 < l.length) (x y : UInt8) :
    (crc ((l.set k (l[k] ^^^ x)).set (k + 1) (l[k + 1] ^^^ y)) 65535 = crc l 65535) ↔ (x.toNat = 0 ∧ y.toNat = 0) := by
  obtain ⟨a, c, d, r, rfl, rfl⟩ := parted l k h
  have e0 : (a ++ c :: d :: r)[a.length] = c := by simp
  have e1 : (a ++ c :: d :: r)[a.length + 1] = d := by simp
  rw [e0, e1, set_two, crc_pair a r (by omega), xor_same, xor_same]
/-- A slice's cells are these bytes, and may be written. -/
def Buf (w : World) (h : Nat) (l : List UInt8) : Prop := ∀ j (hj : j < l.length), w.cell? ⟨h, j, none⟩ = some (.int .u8 (l[j].toNat : Int)) ∧ w.frozen? ⟨h, j, none⟩ = false
theorem Buf.set {w : World} {h : Nat} {l : List UInt8} (b : Buf w h l) {k : Nat} (hk : k < l.length) (c : UInt8) : Buf (w.setCell ⟨h, k, none⟩ (.int .u8 (c.toNat : Int))) h (l.set k c) := by
  intro j hj
  rw [List.length_set] at hj
  obtain ⟨h1, h2⟩ := b j hj
  refine ⟨?_, by rw [World.frozen?_setCell]; exact h2⟩
  by_cases e : k = j
  · subst e
    rw [w.cell?_setCell_same _ _ h1, List.getElem_set_self]
  · rw [w.cell?_setCell_other _ _ _ (by intro h; exact e (by injection h)), h1, List.getElem_set_ne e]
theorem Buf.made (w : World) (s : ByteArray) (e : TypeId) : Buf (bytesWorld w e s) w.heap.size s.data.toList := by
  intro j hj
  have hs : j < s.size := by simpa using hj
  refine ⟨?_, ?_⟩
  · rw [bytesWorld_cell w e s j hs, List.getD, List.getElem?_eq_getElem hj]; rfl
  · have hz : s.size ≤ (bytesCells w e s).size := by simp [bytesCells]
    unfold World.frozen?
    rw [bytesWorld_at_new]
    simp
    omega
theorem Rel.bytes {w0 w : World} (h : Rel w0 w) (e : TypeId) (s : ByteArray) : Rel w0 (bytesWorld w e s) := by
  refine h.step ⟨rfl, rfl, rfl, ?_, fun k hk => bytesWorld_at_old w e s k hk⟩
  rw [bytesWorld_size]; omega
theorem Rel.setCell {w0 w : World} (h : Rel w0 w) {p : Addr} (hp : w0.heap.size ≤ p.block) (u : Value) : Rel w0 (w.setCell p u) := Below.setCell h hp u
theorem Buf.back {w : World} {h : Nat} {l : List UInt8} (b : Buf w h l) (cap : Nat) :
    (convert 27 9 (.slice (some ⟨h, 0, none⟩) l.length cap)).run Try.prog w = .ok (.string (B l)) w :=
  run_convert_bytes_back (P := Try.prog) w 27 9 5 ⟨h, 0, none⟩ cap l Try.underlying27 Try.underlying5 Try.underlying9 (fun j hj => by
    have := (b j hj).1
    rw [show (⟨h, 0, none⟩ : Addr).add j = ⟨h, j, none⟩ by unfold Addr.add; split <;> simp_all]
    exact this)
set_option maxHeartbeats 1000000 in
theorem SumChanged_at (a0 T : ByteArray) (a1 a2 a3 : Int) (w : World) (s0 : a0.size ≤ 9223372036854775807) (u0 : -9223372036854775808 ≤ a1) (u1 : a1 ≤ 9223372036854775807) (u2 : -9223372036854775808 ≤ a2) (u3 : a2 ≤ 9223372036854775807) (u4 : -9223372036854775808 ≤ a3) (u5 : a3 ≤ 9223372036854775807)
    (c0 : Hid ((if 3000 < a0.size then a0.extract 0 3000 else a0) = T)) (zt : T.size ≤ 3000) (n k : Nat) (x y : Int) (n2 : 2 ≤ n) (n3 : n ≤ 3002) (hk : k + 1 < n)
    (HK : Hid (pk a1 ((n : Int) - 1) = k)) (HX : Hid (pk a2 256 = x)) (HY : Hid (pk a3 256 = y)) (x0 : 0 ≤ x) (x1 : x < 256) (y0 : 0 ≤ y) (y1 : y < 256)
    (cp : World → Nat) (W1 : World → World) (L : List UInt8) (HL : Hid (L.length = n))
    (hcv : ∀ w : World, (convert 9 27 (.string (T ++ (⟨#[97, 98]⟩ : ByteArray)))).run Try.prog w = .ok (.slice (some ⟨w.heap.size, 0, none⟩) n (cp w)) (W1 w))
    (HB : Hid (∀ w : World, Buf (W1 w) w.heap.size L)) (HR : Hid (∀ w0 w : World, Rel w0 w → Rel w0 (W1 w)))
    (p p' q q' : UInt8) (HP : Hid (∀ h, L[k]'h = p)) (HP' : Hid (∀ h, L[k + 1]'h = p')) (hq : bits .xor .u8 (p.toNat : Int) x = (q.toNat : Int)) (hq' : bits .xor .u8 (p'.toNat : Int) y = (q'.toNat : Int))
    (S : ByteArray) (HS : Hid (B ((L.set k q).set (k + 1) q') = S)) (zs : S.size ≤ 3002) (z2 : (T ++ (⟨#[97, 98]⟩ : ByteArray)).size ≤ 3002) (M M' : Int) (HM : Hid (((sm (T ++ (⟨#[97, 98]⟩ : ByteArray)) : Nat) : Int) = M)) (HM' : Hid (((sm S : Nat) : Int) = M'))
    (cx cy cm : Bool) (hx : (x == 0) = cx) (hy : (y == 0) = cy) (hm : (M' == M) = cm) (hc : Hid (cm = (cx && cy))) :
    Calls Try.prog 4 #[.string a0, .int .i64 a1, .int .i64 a2, .int .i64 a3] w fun e w' => e = .returned (.bool true) ∧ Below w.heap.size w w' := by
  have hr := Rel.start w
  have hz := cut_size a0 3000
  by_cases hs : 3000 < a0.size
  all_goals
    have c1 := c0.out
    first | rw [if_pos hs] at c1 | rw [if_neg hs] at c1
    subst c1
    cases cx <;> cases cy
    all_goals
      have hcm := hc.out
      simp only [Bool.and_true, Bool.and_false] at hcm
      subst hcm
      go_enter Try.func4, Try.ntmps4
      go_upto_region 9 with (first
        | (go_at_call 9; (with_reducible refine (awake_any _ _ (by assumption)).mono ?_); rintro e w' ⟨rfl, hr'⟩)
        | (go_at_call 14; (first
            | (with_reducible refine (int_at _ (pick_any _ _ u0 u1 (by omega) (by omega) _) HK).mono ?_)
            | (with_reducible refine (int_at _ (pick_any _ _ u2 u3 (by omega) (by omega) _) HX).mono ?_)
            | (with_reducible refine (int_at _ (pick_any _ _ u4 u5 (by omega) (by omega) _) HY).mono ?_)); rintro e w' ⟨rfl, rfl⟩))
      have b := HB.out w'
      have r := HR.out w w' hr'
      have hn := HL.out
      have hk1 : k < L.length := by omega
      have hk2 : k + 1 < L.length := by omega
      have hk3 : k + 1 < (L.set k q).length := by rw [List.length_set]; exact hk2
      have d := b k hk1
      rw [HP.out] at d
      obtain ⟨d1, d2⟩ := d
      have b2 := b.set hk1 q
      have d' := b2 (k + 1) hk3
      rw [List.getElem_set_ne (by omega), HP'.out] at d'
      have B3 := Lib.hid (b2.set hk3 q')
      have D' := Lib.hid d'
      have hw : w.heap.size ≤ w'.heap.size := hr'.size
      clear b b2 d' hk1 hk2 hk3
      have HN := Lib.hid hn
      clear hn
      go_upto_region 10 with (fail)
      clear d1 d2
      obtain ⟨d1, d2⟩ := D'.out
      go_upto_region 11 with (fail)
      clear d1 d2
      have hback := B3.out.back (cp w')
      rw [List.length_set, List.length_set, HN.out, HS.out] at hback
      go_wp2_with (go_at_call 10; (first
          | (with_reducible refine (int_at _ (of_sm _ (by omega) _) HM').mono ?_)
          | (with_reducible refine (int_at _ (of_sm _ (by omega) _) HM).mono ?_)); rintro e w' ⟨rfl, rfl⟩)
      go_ret
      exact ⟨rfl, Rel.below (Rel.setCell (Rel.setCell r hw _) hw _)⟩
theorem xor_bo (p : UInt8) (x : Int) (h0 : 0 ≤ x) (h1 : x < 256) : bits .xor .u8 (p.toNat : Int) x = ((p ^^^ bo x).toNat : Int) := by
  have e := bo_nat h0 h1
  have h := u8_xor_nat p.toNat (bo x).toNat (u8_lt p) (u8_lt _)
  rw [e] at h
  rw [h, UInt8.toNat_xor]
theorem SumChanged_walk (a0 : ByteArray) (a1 a2 a3 : Int) (w : World) (s0 : a0.size ≤ 9223372036854775807) (w1 : (Lit.int .i64 a1).wf = true) (w2 : (Lit.int .i64 a2).wf = true) (w3 : (Lit.int .i64 a3).wf = true) :
    Calls Try.prog 4 #[.string a0, .int .i64 a1, .int .i64 a2, .int .i64 a3] w fun e w' => e = .returned (.bool true) ∧ Below w.heap.size w w' := by
  obtain ⟨u0, u1⟩ := bd64 w1
  obtain ⟨u2, u3⟩ := bd64 w2
  obtain ⟨u4, u5⟩ := bd64 w3
  obtain ⟨T, hT⟩ : ∃ T, (if 3000 < a0.size then a0.extract 0 3000 else a0) = T := ⟨_, rfl⟩
  have zt : T.size ≤ 3000 := by
    rw [← hT]
    split
    · exact cut_size a0 3000
    · omega
  obtain ⟨t, ht⟩ : ∃ t, T ++ (⟨#[97, 98]⟩ : ByteArray) = t := ⟨_, rfl⟩
  have hn : t.size = T.size + 2 := by rw [← ht, app_size]; rfl
  have hl : t.data.toList.length = t.size := by simp
  obtain ⟨x0, x1⟩ := pk_bd a2 256 (by omega)
  obtain ⟨y0, y1⟩ := pk_bd a3 256 (by omega)
  obtain ⟨k0, k1⟩ := pk_bd a1 ((t.size : Int) - 1) (by omega)
  obtain ⟨k, hk⟩ := Int.eq_ofNat_of_zero_le k0
  have hk1 : k + 1 < t.data.toList.length := by omega
  have ex := bo_nat x0 x1
  have ey := bo_nat y0 y1
  have key := turned t.data.toList k hk1 (bo (pk a2 256)) (bo (pk a3 256))
  refine SumChanged_at a0 T a1 a2 a3 w s0 u0 u1 u2 u3 u4 u5 (Lib.hid hT) zt t.size k (pk a2 256) (pk a3 256) (by omega) (by omega) (by omega) (Lib.hid hk) (Lib.hid rfl) (Lib.hid rfl) x0 x1 y0 y1
    (fun w => grownCap w t.size 0 5) (fun w => bytesWorld w 5 t) t.data.toList (Lib.hid hl) (fun w => ?_) (Lib.hid fun w => Buf.made w t _) (Lib.hid fun w0 w h => h.bytes _ _)
    (t.data.toList[k]) (t.data.toList[k + 1]) (t.data.toList[k] ^^^ bo (pk a2 256)) (t.data.toList[k + 1] ^^^ bo (pk a3 256)) (Lib.hid fun _ => rfl) (Lib.hid fun _ => rfl) (xor_bo _ _ x0 x1) (xor_bo _ _ y0 y1)
    _ (Lib.hid rfl) ?_ ?_ _ _ (Lib.hid rfl) (Lib.hid rfl) _ _ _ rfl rfl ?_ (Lib.hid rfl)
  · rw [ht]
    exact Lib.run_convert_string_bytes (P := Try.prog) w 9 27 5 t (u := .string) Try.underlying9 Try.underlying27 Try.underlying5
  · rw [B_size, List.length_set, List.length_set]; omega
  · rw [ht]; omega
  · rw [Bool.eq_iff_iff, beq_iff_eq, Bool.and_eq_true, beq_iff_eq, beq_iff_eq, ht]
    unfold sm
    rw [B_list]
    refine ⟨fun h => ?_, fun h => ?_⟩
    · have := key.1 (by omega)
      omega
    · have := key.2 (by omega)
      omega
end Go.Proofs.Ytokepfcebkpnfaa
