/- Slices of records as the walks meet them. -/
import Derived.Test.YtjbbfcomgglhiaaDoorRecNum
namespace Go.Proofs.YtjbbfcomgglhiaaDoor
open Go.RowKit Go.Lib
set_option linter.unusedVariables false
set_option linter.unusedSimpArgs false

/-- The cells from A on are these records. -/
def RecsAt (w : World) (A : Option Addr) (rs : List (Int × List Int × ByteArray)) : Prop :=
  ∀ i (h : i < rs.length), ∃ (g off : Nat) (A' : Option Addr) (c : Nat), A = some ⟨g, off, none⟩ ∧ g < w.heap.size ∧ w.cell? ⟨g, off + i * 3, none⟩ = some (.int .i64 rs[i].1) ∧ w.cell? ⟨g, off + i * 3 + 1, none⟩ = some (.slice A' rs[i].2.1.length c) ∧
    w.cell? ⟨g, off + i * 3 + 2, none⟩ = some (.string rs[i].2.2) ∧ IntsAt w A' rs[i].2.1
theorem RecsAt.below {w w' : World} {A : Option Addr} {rs : List (Int × List Int × ByteArray)} (h : RecsAt w A rs) (hb : Below w.heap.size w w') : RecsAt w' A rs := by
  intro i hi
  obtain ⟨g, off, A', c, e, hl, h0, h1, h2, h3⟩ := h i hi
  have hk : ∀ j, w'.cell? ⟨g, j, none⟩ = w.cell? ⟨g, j, none⟩ := fun j => hb.cell (p := ⟨g, j, none⟩) hl
  exact ⟨g, off, A', c, e, by have := hb.size; omega, by rw [hk]; exact h0, by rw [hk]; exact h1, by rw [hk]; exact h2, h3.below hb⟩
theorem RecsAt.rel {w w' : World} {A : Option Addr} {rs : List (Int × List Int × ByteArray)} (h : RecsAt w A rs) (hr : Rel w w') : RecsAt w' A rs := h.below hr.2
theorem list_of {a b : ByteArray} : (a.toList == b.toList) = true ↔ a.data.toList = b.data.toList := by
  rw [beq_iff_eq]
  have e1 := B_toList a.data.toList
  have e2 := B_toList b.data.toList
  rw [B_of] at e1 e2
  rw [e1, e2]
/-- What a record says: its text as a list. -/
def pure3 (r : Int × List Int × ByteArray) : Int × List Int × List UInt8 := (r.1, r.2.1, r.2.2.data.toList)
def StrBool (e : Ending) (s : ByteArray) (b : Bool) : Prop := e = .returned (.tuple #[.string s, .bool b])
theorem StrInt.of {e : Ending} {s s' : ByteArray} {n n' : Int} (h : StrInt e s n) (hs : s = s') (hn : n = n') : StrInt e s' n' := by subst hs; subst hn; exact h
/-- What the program's Encode is to tell. -/
def EncOk : Prop := ∀ (k : Int) (A : Option Addr) (cap : Nat) (xs : List Int) (t : ByteArray), xs.length ≤ 9223372036854775807 → t.size ≤ 9223372036854775807 → ∀ w0 w : World, Rel w0 w → Hid (IntsAt w A xs) →
    Calls Tryd.prog 11 #[.agg #[.int .i64 k, .slice A xs.length cap, .string t]] w fun e w' => StrInt e (encT k xs t) (encE k xs t) ∧ Rel w0 w'
theorem enc_right (E : EncOk) {r : Int × List Int × ByteArray} (h : frRight (pure3 r)) (A : Option Addr) (cap : Nat) (w0 w : World) (hr : Rel w0 w) (hx : Hid (IntsAt w A r.2.1)) :
    Calls Tryd.prog 11 #[.agg #[.int .i64 r.1, .slice A r.2.1.length cap, .string r.2.2]] w fun e w' => e = .returned (.tuple #[.string (B (frEnc (pure3 r))), .int .i64 0]) ∧ Rel w0 w' := by
  have h1 := h.2.2.1
  have h2 := h.2.2.2.2
  have h3 : r.2.2.data.toList.length = r.2.2.size := by simp
  have h4 : (pure3 r).2.2 = r.2.2.data.toList := rfl
  have h5 : (pure3 r).2.1 = r.2.1 := rfl
  rw [h4] at h2
  rw [h5] at h1
  refine (E r.1 A cap r.2.1 r.2.2 (by omega) (by omega) w0 w hr hx).mono ?_
  rintro e w' ⟨he, hr'⟩
  have hb : rtB r.1 r.2.1 r.2.2 = true := rtB_iff.2 h
  exact ⟨he.of (by unfold encT; rw [if_pos hb]; rfl) (by unfold encE; rw [if_pos hb]), hr'⟩
theorem all_snoc3 (rs : List (Int × List Int × ByteArray)) (j : Nat) (h : j < rs.length) : frAll ((rs.take (j + 1)).map pure3) = frAll ((rs.take j).map pure3) ++ frEnc (pure3 rs[j]) := by
  rw [List.take_succ_eq_append_getElem h, List.map_append, frAll_append]
  simp [frAll]
theorem enc_size {r : Int × List Int × List UInt8} (h : frRight r) : (B (frEnc r)).size ≤ 2466 := by
  have := (frBody_len h).1
  rw [B_size, frEnc_len]; omega
set_option maxHeartbeats 1000000 in
theorem frames_any (E : EncOk) (A : Option Addr) (cap : Nat) (rs : List (Int × List Int × ByteArray)) (hl : rs.length ≤ 1000000000) (hR : Hid (∀ r ∈ rs, frRight (pure3 r))) (w0 w : World) (hr : Rel w0 w) (hx : Hid (RecsAt w A rs)) :
    Calls Tryd.prog 20 #[.slice A rs.length cap] w fun e w' => StrBool e (B (frAll (rs.map pure3))) true ∧ Rel w0 w' := by
  have hE := Lib.hid E
  clear E
  have HW := Lib.hid (hr.self)
  go_enter Tryd.func20, Tryd.ntmps20
  go_wp2
  go_loopw [4, 5] (fun s i wr => ∃ (j : Nat) (S : ByteArray), j ≤ rs.length ∧ i = .int .i64 j ∧ s = .string S ∧ S.size ≤ 2466 * j ∧ Hid (S = B (frAll ((rs.take j).map pure3))) ∧ Rel w wr) (fun _ i _ => rs.length - (intOf i).toNat)
  case atStart => exact ⟨0, _, by omega, rfl, rfl, Nat.le_refl _, Lib.hid rfl, HW.out⟩
  case round =>
    obtain ⟨j, S, hj, rfl, rfl, hS, HS, hR2⟩ := hrel
    by_cases hlt : j < rs.length
    · obtain ⟨g, off, A', c, rfl, hb, h0, h1, h2, h3⟩ := (hx.out.rel hR2) j hlt
      have HM := Lib.hid (all_snoc3 rs j hlt)
      have HX := Lib.hid h3
      have hq := hR.out rs[j] (List.getElem_mem hlt)
      have z1 := enc_size hq
      have HQ := Lib.hid hq
      clear h3 hq
      go_wp2_with (go_at_call 11; (with_reducible refine (enc_right hE.out HQ.out A' c _ _ hR2 HX).mono ?_); rintro e wn ⟨rfl, hn⟩)
      go_roundw
      case rel => exact ⟨j + 1, _, by omega, by go_num, rfl, by rw [ByteArray.size_append]; omega, Lib.hid (by rw [HM.out, HS.out, B_append]), hn⟩
      case measure => simp [intOf]; omega
    · obtain rfl : j = rs.length := by omega
      go_wp2_with (fail)
      go_ret2
      exact ⟨by rw [HS.out, List.take_length]; rfl, hr.trans hR2⟩
end Go.Proofs.YtjbbfcomgglhiaaDoor
