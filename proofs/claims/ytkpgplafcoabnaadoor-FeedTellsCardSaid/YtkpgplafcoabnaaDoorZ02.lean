/- The law's Line: of raw numbers, a line that may be. -/
import Derived.Test.YtkpgplafcoabnaaDoorZL
import Derived.Test.YtkpgplafcoabnaaDoorZ00
import Derived.Test.YtkpgplafcoabnaaDoorZ01
namespace Go.Proofs.YtkpgplafcoabnaaDoor
open Go.RowKit Go.Lib
set_option linter.unusedVariables false
set_option linter.unusedSimpArgs false
set_option maxHeartbeats 400000 in
theorem pick12_any (c n : Int) (hc : -9223372036854775808 ≤ c) (hc' : c ≤ 9223372036854775807) (hn : 0 < n) (hn' : n ≤ 9223372036854775807) (w : World) :
    Calls Tryd.prog 15 #[.int .i64 c, .int .i64 n] w fun e w' => e = .returned (.int .i64 (pk c n)) ∧ w = w' := by
  by_cases h : c < 0
  all_goals
    go_enter Tryd.func15, Tryd.ntmps15
    go_wp2
    all_goals
      go_ret
      exact ⟨ret_int (by unfold pk; split <;> first | rfl | omega), rfl⟩
theorem pick12_as (c n y : Int) (h : Hid (pk c n = y)) (hc : -9223372036854775808 ≤ c) (hc' : c ≤ 9223372036854775807) (hn : 0 < n) (hn' : n ≤ 9223372036854775807) (w : World) :
    Calls Tryd.prog 15 #[.int .i64 c, .int .i64 n] w fun e w' => e = .returned (.int .i64 y) ∧ w = w' := by
  rw [← h.out]; exact pick12_any c n hc hc' hn hn' w
def srcL : List (List UInt8) := [[97, 99, 109, 101], [102, 101, 101, 100, 49], [122]]
def skuL : List (List UInt8) := [[109, 117, 103], [99, 117, 112], [112, 97, 110], [112, 111, 116]]
abbrev Raw := Int × Int × Int × Int × Int
abbrev RV5 (r : Raw) : Value := .agg #[.int .i64 r.1, .int .i64 r.2.1, .int .i64 r.2.2.1, .int .i64 r.2.2.2.1, .int .i64 r.2.2.2.2]
def i64 (n : Int) : Prop := -9223372036854775808 ≤ n ∧ n ≤ 9223372036854775807
def RawFit (r : Raw) : Prop := i64 r.1 ∧ i64 r.2.1 ∧ i64 r.2.2.1 ∧ i64 r.2.2.2.1 ∧ i64 r.2.2.2.2
def lineF (r : Raw) : Fd := (srcL.getD (pk r.1 3).toNat [], 1 + pk r.2.1 60, skuL.getD (pk r.2.2.1 4).toNat [], sellerL (pk r.2.2.2.1 60), if r.2.2.2.2.tmod 9 = 0 then 0 else pk r.2.2.2.2 2500)
theorem src_name (i : Nat) (h : i < 3) : isName (srcL.getD i []) = true := by
  have : ∀ i : Fin 3, isName (srcL.getD i.val []) = true := by decide
  exact this ⟨i, h⟩
theorem sku_name (i : Nat) (h : i < 4) : isName (skuL.getD i []) = true := by
  have : ∀ i : Fin 4, isName (skuL.getD i.val []) = true := by decide
  exact this ⟨i, h⟩
theorem line_right (r : Raw) : rightF (lineF r) = true := by
  have h0 := pk_bd r.1 3 (by omega)
  have h1 := pk_bd r.2.1 60 (by omega)
  have h2 := pk_bd r.2.2.1 4 (by omega)
  have h3 := pk_bd r.2.2.2.1 60 (by omega)
  have h4 := pk_bd r.2.2.2.2 2500 (by omega)
  refine rightF_iff.2 ⟨src_name _ (by omega), sku_name _ (by omega), seller_name _ h3.1 h3.2, ?_, ?_⟩
  · show 1 ≤ 1 + pk r.2.1 60 ∧ 1 + pk r.2.1 60 ≤ 1000000000000
    omega
  · show 0 ≤ (if r.2.2.2.2.tmod 9 = 0 then 0 else pk r.2.2.2.2 2500) ∧ (if r.2.2.2.2.tmod 9 = 0 then 0 else pk r.2.2.2.2 2500) ≤ 1000000000000
    split <;> omega
theorem src_cell {w : World} {g : Nat} (h : Bk w g 9 #[.string ⟨#[97, 99, 109, 101]⟩, .string ⟨#[102, 101, 101, 100, 49]⟩, .string ⟨#[122]⟩]) (i : Nat) (hi : i < 3) : w.cell? ⟨g, i, none⟩ = some (.string (B (srcL.getD i []))) := by
  rw [h.cell i]
  have : ∀ i : Fin 3, (#[.string ⟨#[97, 99, 109, 101]⟩, .string ⟨#[102, 101, 101, 100, 49]⟩, .string ⟨#[122]⟩] : Array Value)[i.val]? = some (.string (B (srcL.getD i.val []))) := fun i => by
    match i with
    | ⟨0, _⟩ => rfl
    | ⟨1, _⟩ => rfl
    | ⟨2, _⟩ => rfl
  exact this ⟨i, hi⟩
theorem sku_cell {w : World} {g : Nat} (h : Bk w g 9 #[.string ⟨#[109, 117, 103]⟩, .string ⟨#[99, 117, 112]⟩, .string ⟨#[112, 97, 110]⟩, .string ⟨#[112, 111, 116]⟩]) (i : Nat) (hi : i < 4) : w.cell? ⟨g, i, none⟩ = some (.string (B (skuL.getD i []))) := by
  rw [h.cell i]
  have : ∀ i : Fin 4, (#[.string ⟨#[109, 117, 103]⟩, .string ⟨#[99, 117, 112]⟩, .string ⟨#[112, 97, 110]⟩, .string ⟨#[112, 111, 116]⟩] : Array Value)[i.val]? = some (.string (B (skuL.getD i.val []))) := fun i => by
    match i with
    | ⟨0, _⟩ => rfl
    | ⟨1, _⟩ => rfl
    | ⟨2, _⟩ => rfl
    | ⟨3, _⟩ => rfl
  exact this ⟨i, hi⟩
/-- What each operation of Line's region leaves in its slot. -/
def LinP (V : World) (g0 : Nat) (r0 r1 r2 r3 r4 : Int) (k0 k2 : Nat) (p1 p4 : Int) (s0 s2 s3 : ByteArray) : Nat → Value → World → Prop
  | 0, v, w => ∃ g, v = .slice (some ⟨g, 0, none⟩) 3 3 ∧ Bk w g 9 #[.string ⟨#[97, 99, 109, 101]⟩, .string ⟨#[102, 101, 101, 100, 49]⟩, .string ⟨#[122]⟩]
  | 1, v, _ => v = .pointer (some ⟨g0, 0, none⟩)
  | 2, v, _ => v = .int .i64 r0
  | 3, v, _ => v = .int .i64 (k0 : Int)
  | 4, v, w => ∃ g, v = .pointer (some ⟨g, k0, none⟩) ∧ Bk w g 9 #[.string ⟨#[97, 99, 109, 101]⟩, .string ⟨#[102, 101, 101, 100, 49]⟩, .string ⟨#[122]⟩]
  | 5, v, _ => v = .string s0
  | 6, v, _ => v = .pointer (some ⟨g0, 1, none⟩)
  | 7, v, _ => v = .int .i64 r1
  | 8, v, _ => v = .int .i64 p1
  | 9, v, _ => v = .int .i64 (1 + p1)
  | 10, v, w => ∃ g, v = .slice (some ⟨g, 0, none⟩) 4 4 ∧ Bk w g 9 #[.string ⟨#[109, 117, 103]⟩, .string ⟨#[99, 117, 112]⟩, .string ⟨#[112, 97, 110]⟩, .string ⟨#[112, 111, 116]⟩]
  | 11, v, _ => v = .pointer (some ⟨g0, 2, none⟩)
  | 12, v, _ => v = .int .i64 r2
  | 13, v, _ => v = .int .i64 (k2 : Int)
  | 14, v, w => ∃ g, v = .pointer (some ⟨g, k2, none⟩) ∧ Bk w g 9 #[.string ⟨#[109, 117, 103]⟩, .string ⟨#[99, 117, 112]⟩, .string ⟨#[112, 97, 110]⟩, .string ⟨#[112, 111, 116]⟩]
  | 15, v, _ => v = .string s2
  | 16, v, _ => v = .pointer (some ⟨g0, 3, none⟩)
  | 17, v, _ => v = .int .i64 r3
  | 18, v, _ => v = .string s3
  | 19, v, _ => v = .pointer (some ⟨g0, 4, none⟩)
  | 20, v, _ => v = .int .i64 r4
  | 21, v, _ => v = .int .i64 p4
  | 22, v, _ => v = .agg #[.string s0, .int .i64 (1 + p1), .string s2, .string s3, .int .i64 p4]
  | 23, v, w => ∃ g, v = .pointer (some ⟨g, 0, none⟩) ∧ Bk w g 23 #[.string ⟨#[]⟩, .int .i64 0, .string ⟨#[]⟩, .string ⟨#[]⟩, .int .i64 0] ∧ V.heap.size ≤ g
  | _, _, _ => True
theorem LinP.rel {V : World} {g0 : Nat} {r0 r1 r2 r3 r4 : Int} {k0 k2 : Nat} {p1 p4 : Int} {s0 s2 s3 : ByteArray} {w w' : World} (hr : Rel w w') : ∀ (i : Nat) (v : Value), LinP V g0 r0 r1 r2 r3 r4 k0 k2 p1 p4 s0 s2 s3 i v w → LinP V g0 r0 r1 r2 r3 r4 k0 k2 p1 p4 s0 s2 s3 i v w' := by
  intro i v h
  unfold LinP at h ⊢
  split at h
  · obtain ⟨g, e, hb⟩ := h; exact ⟨g, e, hb.rel hr⟩
  · exact h
  · exact h
  · exact h
  · obtain ⟨g, e, hb⟩ := h; exact ⟨g, e, hb.rel hr⟩
  · exact h
  · exact h
  · exact h
  · exact h
  · exact h
  · obtain ⟨g, e, hb⟩ := h; exact ⟨g, e, hb.rel hr⟩
  · exact h
  · exact h
  · exact h
  · obtain ⟨g, e, hb⟩ := h; exact ⟨g, e, hb.rel hr⟩
  · exact h
  · exact h
  · exact h
  · exact h
  · exact h
  · exact h
  · exact h
  · exact h
  · obtain ⟨g, e, hb, hg⟩ := h; exact ⟨g, e, hb.rel hr, hg⟩
  · exact h
/-- The slots and the world, what is done being listed. -/
def LinI (V : World) (g0 : Nat) (r0 r1 r2 r3 r4 : Int) (k0 k2 : Nat) (p1 p4 : Int) (s0 s2 s3 : ByteArray) (l : Array Bool) (f : Nat → Value) (w : World) : Prop :=
  Rel V w ∧ ∀ i, i < 24 → l.getD i false = true → LinP V g0 r0 r1 r2 r3 r4 k0 k2 p1 p4 s0 s2 s3 i (f (if i = 23 then 3 else i + 4)) w
theorem LinI.rr {V : World} {g0 : Nat} {r0 r1 r2 r3 r4 : Int} {k0 k2 : Nat} {p1 p4 : Int} {s0 s2 s3 : ByteArray} {l : Array Bool} {f : Nat → Value} {w : World} (h : LinI V g0 r0 r1 r2 r3 r4 k0 k2 p1 p4 s0 s2 s3 l f w) : Rel V w := h.1
theorem rep_false (n i : Nat) : (Array.replicate n false).getD i false = false := by
  rw [Array.getD_eq_getD_getElem?, Array.getElem?_replicate]
  split <;> rfl
def upd (f : Nat → Value) (d : Nat) (v : Value) : Nat → Value := fun k => if k = d then v else f k
theorem LinI.put {V : World} {g0 : Nat} {r0 r1 r2 r3 r4 : Int} {k0 k2 : Nat} {p1 p4 : Int} {s0 s2 s3 : ByteArray} {l : Array Bool} {f : Nat → Value} {w w' : World} (h : LinI V g0 r0 r1 r2 r3 r4 k0 k2 p1 p4 s0 s2 s3 l f w) (hr : Rel w w') (i : Nat) (hi : i < 24) (d : Nat) (hd : (if i = 23 then 3 else i + 4) = d) {v : Value} (hv : LinP V g0 r0 r1 r2 r3 r4 k0 k2 p1 p4 s0 s2 s3 i v w') : LinI V g0 r0 r1 r2 r3 r4 k0 k2 p1 p4 s0 s2 s3 (l.setIfInBounds i true) (upd f d v) w' := by
  refine ⟨h.1.trans hr, fun j hj hl => ?_⟩
  by_cases e : j = i
  · subst e
    rw [hd]
    unfold upd
    rw [if_pos rfl]
    exact hv
  · rw [getD_set e] at hl
    have := LinP.rel hr j _ (h.2 j hj hl)
    unfold upd
    rw [if_neg (by subst hd; split <;> split <;> omega)]
    exact this
set_option maxRecDepth 100000 in
set_option maxHeartbeats 16000000 in
theorem line_any (r0 r1 r2 r3 r4 : Int) (hf : RawFit (r0, r1, r2, r3, r4)) (w0 w : World) (hr : Rel w0 w) :
    Calls Tryd.prog 10 #[.agg #[.int .i64 r0, .int .i64 r1, .int .i64 r2, .int .i64 r3, .int .i64 r4]] w fun e w' => e = .returned (FV (lineF (r0, r1, r2, r3, r4))) ∧ Rel w0 w' := by
  obtain ⟨i0, i1, i2, i3, i4⟩ := hf
  simp only [i64] at i0 i1 i2 i3 i4
  have c0 := pk_bd r0 3 (by omega)
  have c1 := pk_bd r1 60 (by omega)
  have c2 := pk_bd r2 4 (by omega)
  have c4 := pk_bd r4 2500 (by omega)
  have t9 := tdt r4 9 (by omega)
  have HL := Lib.hid (show lineF (r0, r1, r2, r3, r4) = (srcL.getD (pk r0 3).toNat [], 1 + pk r1 60, skuL.getD (pk r2 4).toNat [], sellerL (pk r3 60), if r4.tmod 9 = 0 then 0 else pk r4 2500) from rfl)
  have SE := Lib.hid (fun (w1 : World) (h : Rel w1 w1) => seller_any r3 i3.1 i3.2 w1 w1 h)
  obtain ⟨k0, hk0⟩ : ∃ k : Nat, pk r0 3 = (k : Int) := ⟨(pk r0 3).toNat, by omega⟩
  obtain ⟨k2, hk2⟩ : ∃ k : Nat, pk r2 4 = (k : Int) := ⟨(pk r2 4).toNat, by omega⟩
  obtain ⟨p1, hp1⟩ : ∃ q, pk r1 60 = q := ⟨_, rfl⟩
  obtain ⟨p4, hp4⟩ : ∃ q, pk r4 2500 = q := ⟨_, rfl⟩
  rw [hk0, hp1, hk2, hp4] at HL
  rw [hk0] at c0
  rw [hk2] at c2
  rw [hp1] at c1
  rw [hp4] at c4
  have P0 := Lib.hid hk0
  have P1 := Lib.hid hp1
  have P2 := Lib.hid hk2
  have P4 := Lib.hid hp4
  have K0 := Lib.hid (show k0 < 3 by omega)
  have K2 := Lib.hid (show k2 < 4 by omega)
  obtain ⟨s0, hs0⟩ : ∃ s, B (srcL.getD k0 []) = s := ⟨_, rfl⟩
  obtain ⟨s2, hs2⟩ : ∃ s, B (skuL.getD k2 []) = s := ⟨_, rfl⟩
  obtain ⟨s3, hs3⟩ : ∃ s, B (sellerL (pk r3 60)) = s := ⟨_, rfl⟩
  rw [hs3] at SE
  have S0 := Lib.hid hs0
  have S2 := Lib.hid hs2
  have S3 := Lib.hid hs3
  obtain ⟨m, hm⟩ : ∃ m, r4.tmod 9 = m := ⟨_, rfl⟩
  rw [hm] at HL t9
  have m0 : -9 < m ∧ m < 9 := by omega
  have HM := Lib.hid (show ∃ x : Int, x = (if m = 0 then 0 else p4) from ⟨_, rfl⟩)
  have HR := Lib.hid hr
  have HW := Lib.hid ((hr.self.alloc (.cells #[.int .i64 r0, .int .i64 r1, .int .i64 r2, .int .i64 r3, .int .i64 r4] 24)).alloc (.cells #[.string ⟨#[]⟩, .int .i64 0, .string ⟨#[]⟩, .string ⟨#[]⟩, .int .i64 0] 23))
  have HX0 := Lib.hid ((Bk.new w 24 #[.int .i64 r0, .int .i64 r1, .int .i64 r2, .int .i64 r3, .int .i64 r4]).alloc (.cells #[.string ⟨#[]⟩, .int .i64 0, .string ⟨#[]⟩, .string ⟨#[]⟩, .int .i64 0] 23))
  clear hk0 hk2 hp1 hp4 hs0 hs2 hs3 hr
  have MM := Lib.hid hm
  have hgo : Hid True := trivial
  go_enter Tryd.func10, Tryd.ntmps10
  go_upto_region 1 with (fail)
  have hz : ((w.alloc (.cells #[.int .i64 r0, .int .i64 r1, .int .i64 r2, .int .i64 r3, .int .i64 r4] 24)).alloc (.cells #[.string ⟨#[]⟩, .int .i64 0, .string ⟨#[]⟩, .string ⟨#[]⟩, .int .i64 0] 23)).heap.size = w.heap.size + 2 := by rw [World.size_alloc, World.size_alloc]
  have HZ0 := Lib.hid (show Bk ((w.alloc (.cells #[.int .i64 r0, .int .i64 r1, .int .i64 r2, .int .i64 r3, .int .i64 r4] 24)).alloc (.cells #[.string ⟨#[]⟩, .int .i64 0, .string ⟨#[]⟩, .string ⟨#[]⟩, .int .i64 0] 23)) (w.heap.size + 1) 23 #[.string ⟨#[]⟩, .int .i64 0, .string ⟨#[]⟩, .string ⟨#[]⟩, .int .i64 0] from by have := Bk.new (w.alloc (.cells #[.int .i64 r0, .int .i64 r1, .int .i64 r2, .int .i64 r3, .int .i64 r4] 24)) 23 #[.string ⟨#[]⟩, .int .i64 0, .string ⟨#[]⟩, .string ⟨#[]⟩, .int .i64 0]; rw [World.size_alloc] at this; exact this)
  obtain ⟨V, hV⟩ : ∃ V, ((w.alloc (.cells #[.int .i64 r0, .int .i64 r1, .int .i64 r2, .int .i64 r3, .int .i64 r4] 24)).alloc (.cells #[.string ⟨#[]⟩, .int .i64 0, .string ⟨#[]⟩, .string ⟨#[]⟩, .int .i64 0] 23)) = V := ⟨_, rfl⟩
  rw [hV] at HW HX0 HZ0 hz
  rw [hV]
  clear hV
  have HX := HX0
  have HV := Lib.hid HW.out.self.drew
  go_cut [3] (fun v wx => ∃ (V1 : World) (G : Nat), V1 = wx ∧ v = .pointer (some ⟨G, 0, none⟩) ∧ Hid (Bk V1 G 23 #[.string s0, .int .i64 (1 + p1), .string s2, .string s3, .int .i64 p4]) ∧ Hid (Rel V V1) ∧ Hid (V.heap.size ≤ G))
  case first =>
    refine wp_region_any (by kernel_rfl) ?_
    refine wpAny_last 25 24 (fun l a w' => ∃ f : Nat → Value, a = ⟨#[.agg #[.int .i64 r0, .int .i64 r1, .int .i64 r2, .int .i64 r3, .int .i64 r4], .pointer (some ⟨w.heap.size, 0, none⟩), .pointer (some ⟨(w.heap.size + 1), 0, none⟩), f 3, f 4, f 5, f 6, f 7, f 8, f 9, f 10, f 11, f 12, f 13, f 14, f 15, f 16, f 17, f 18, f 19, f 20, f 21, f 22, f 23, f 24, f 25, f 26, undef, undef, undef, undef, undef, undef], []⟩ ∧ LinI V w.heap.size r0 r1 r2 r3 r4 k0 k2 p1 p4 s0 s2 s3 l f w') (by kernel_rfl) (by kernel_rfl) (by decide) (by kernel_rfl) ?_ ?_ _ _ ⟨fun _ => undef, rfl, HV.out, fun i hi h => by rw [rep_false] at h; cases h⟩
    · rintro i l a wq hi24 hne hil ⟨f, rfl, hI⟩ hi
      have ways : i = 0 ∨ i = 1 ∨ i = 2 ∨ i = 3 ∨ i = 4 ∨ i = 5 ∨ i = 6 ∨ i = 7 ∨ i = 8 ∨ i = 9 ∨ i = 10 ∨ i = 11 ∨ i = 12 ∨ i = 13 ∨ i = 14 ∨ i = 15 ∨ i = 16 ∨ i = 17 ∨ i = 18 ∨ i = 19 ∨ i = 20 ∨ i = 21 ∨ i = 22 ∨ i = 23 := by omega
      clear hi24 hne
      rcases ways with rfl | rfl | rfl | rfl | rfl | rfl | rfl | rfl | rfl | rfl | rfl | rfl | rfl | rfl | rfl | rfl | rfl | rfl | rfl | rfl | rfl | rfl | rfl | rfl
      · refine wpOp_shut rfl (fun K hK => ?_)
        have HI := Lib.hid hI
        clear hi hI hil
        try simp only [List.getElem_toArray, List.getElem_cons_succ, List.getElem_cons_zero]
        rw [if_pos (by rfl)]
        go_simp
        try simp only [Act.put, List.setIfInBounds_toArray, List.set_cons_zero, List.set_cons_succ]
        exact hK.out _ _ ⟨upd f 4 (.slice (some ⟨wq.heap.size, 0, none⟩) 3 3), by simp [upd], HI.out.put (HI.out.rr.self.alloc _) 0 (by omega) 4 (by decide) ⟨_, rfl, Bk.new _ _ _⟩⟩
      · refine wpOp_shut rfl (fun K hK => ?_)
        have HI := Lib.hid hI
        clear hi hI hil
        try simp only [List.getElem_toArray, List.getElem_cons_succ, List.getElem_cons_zero]
        rw [if_pos (by rfl)]
        go_simp
        try simp only [Act.put, List.setIfInBounds_toArray, List.set_cons_zero, List.set_cons_succ]
        exact hK.out _ _ ⟨upd f 5 (.pointer (some ⟨w.heap.size, 0, none⟩)), by simp [upd], HI.out.put HI.out.rr.self 1 (by omega) 5 (by decide) rfl⟩
      · refine wpOp_shut rfl (fun K hK => ?_)
        have h1 := hI.2 1 (by omega) (ready_need hi (by kernel_rfl)); simp only [LinP, Nat.reduceEqDiff, if_false, if_true, Nat.reduceAdd] at h1
        obtain ⟨⟨x0, x1, x2, x3, x4⟩, _⟩ := five_of (HX.out.rel hI.1)
        have HI := Lib.hid hI
        clear hi hI hil
        try simp only [List.getElem_toArray, List.getElem_cons_succ, List.getElem_cons_zero]
        rw [if_pos (by rfl)]
        go_simp
        try simp only [Act.put, List.setIfInBounds_toArray, List.set_cons_zero, List.set_cons_succ]
        exact hK.out _ _ ⟨upd f 6 (.int .i64 r0), by simp [upd, h1], HI.out.put HI.out.rr.self 2 (by omega) 6 (by decide) rfl⟩
      · refine wpOp_shut rfl (fun K hK => ?_)
        have h2 := hI.2 2 (by omega) (ready_need hi (by kernel_rfl)); simp only [LinP, Nat.reduceEqDiff, if_false, if_true, Nat.reduceAdd] at h2
        have HI := Lib.hid hI
        clear hi hI hil
        try simp only [List.getElem_toArray, List.getElem_cons_succ, List.getElem_cons_zero]
        rw [if_pos (by rfl)]
        go_simp
        go_at_call 15
        (with_reducible refine (pick12_as r0 3 (k0 : Int) P0 i0.1 i0.2 (by omega) (by omega) _).mono ?_)
        rintro e w' ⟨rfl, rfl⟩
        try simp only [Act.put, List.setIfInBounds_toArray, List.set_cons_zero, List.set_cons_succ]
        exact hK.out _ _ ⟨upd f 7 (.int .i64 (k0 : Int)), by simp [upd, h2], HI.out.put HI.out.rr.self 3 (by omega) 7 (by decide) rfl⟩
      · refine wpOp_shut rfl (fun K hK => ?_)
        have h0 := hI.2 0 (by omega) (ready_need hi (by kernel_rfl)); simp only [LinP, Nat.reduceEqDiff, if_false, if_true, Nat.reduceAdd] at h0
        obtain ⟨q0, e0, b0⟩ := h0
        have h3 := hI.2 3 (by omega) (ready_need hi (by kernel_rfl)); simp only [LinP, Nat.reduceEqDiff, if_false, if_true, Nat.reduceAdd] at h3
        have lk : (k0 : Int) < 3 := by omega
        have HI := Lib.hid hI
        clear hi hI hil
        try simp only [List.getElem_toArray, List.getElem_cons_succ, List.getElem_cons_zero]
        rw [if_pos (by rfl)]
        go_simp
        try simp only [Act.put, List.setIfInBounds_toArray, List.set_cons_zero, List.set_cons_succ]
        exact hK.out _ _ ⟨upd f 8 (.pointer (some ⟨q0, k0, none⟩)), by simp [upd, e0, h3], HI.out.put HI.out.rr.self 4 (by omega) 8 (by decide) ⟨q0, rfl, b0⟩⟩
      · refine wpOp_shut rfl (fun K hK => ?_)
        have h4 := hI.2 4 (by omega) (ready_need hi (by kernel_rfl)); simp only [LinP, Nat.reduceEqDiff, if_false, if_true, Nat.reduceAdd] at h4
        obtain ⟨q4, e4, b4⟩ := h4
        have hc := src_cell b4 k0 K0.out
        rw [S0.out] at hc
        have HI := Lib.hid hI
        clear hi hI hil
        try simp only [List.getElem_toArray, List.getElem_cons_succ, List.getElem_cons_zero]
        rw [if_pos (by rfl)]
        go_simp
        try simp only [Act.put, List.setIfInBounds_toArray, List.set_cons_zero, List.set_cons_succ]
        exact hK.out _ _ ⟨upd f 9 (.string s0), by simp [upd, e4], HI.out.put HI.out.rr.self 5 (by omega) 9 (by decide) rfl⟩
      · refine wpOp_shut rfl (fun K hK => ?_)
        have HI := Lib.hid hI
        clear hi hI hil
        try simp only [List.getElem_toArray, List.getElem_cons_succ, List.getElem_cons_zero]
        rw [if_pos (by rfl)]
        go_simp
        try simp only [Act.put, List.setIfInBounds_toArray, List.set_cons_zero, List.set_cons_succ]
        exact hK.out _ _ ⟨upd f 10 (.pointer (some ⟨w.heap.size, 1, none⟩)), by simp [upd], HI.out.put HI.out.rr.self 6 (by omega) 10 (by decide) rfl⟩
      · refine wpOp_shut rfl (fun K hK => ?_)
        have h6 := hI.2 6 (by omega) (ready_need hi (by kernel_rfl)); simp only [LinP, Nat.reduceEqDiff, if_false, if_true, Nat.reduceAdd] at h6
        obtain ⟨⟨x0, x1, x2, x3, x4⟩, _⟩ := five_of (HX.out.rel hI.1)
        have HI := Lib.hid hI
        clear hi hI hil
        try simp only [List.getElem_toArray, List.getElem_cons_succ, List.getElem_cons_zero]
        rw [if_pos (by rfl)]
        go_simp
        try simp only [Act.put, List.setIfInBounds_toArray, List.set_cons_zero, List.set_cons_succ]
        exact hK.out _ _ ⟨upd f 11 (.int .i64 r1), by simp [upd, h6], HI.out.put HI.out.rr.self 7 (by omega) 11 (by decide) rfl⟩
      · refine wpOp_shut rfl (fun K hK => ?_)
        have h7 := hI.2 7 (by omega) (ready_need hi (by kernel_rfl)); simp only [LinP, Nat.reduceEqDiff, if_false, if_true, Nat.reduceAdd] at h7
        have HI := Lib.hid hI
        clear hi hI hil
        try simp only [List.getElem_toArray, List.getElem_cons_succ, List.getElem_cons_zero]
        rw [if_pos (by rfl)]
        go_simp
        go_at_call 15
        (with_reducible refine (pick12_as r1 60 p1 P1 i1.1 i1.2 (by omega) (by omega) _).mono ?_)
        rintro e w' ⟨rfl, rfl⟩
        try simp only [Act.put, List.setIfInBounds_toArray, List.set_cons_zero, List.set_cons_succ]
        exact hK.out _ _ ⟨upd f 12 (.int .i64 p1), by simp [upd, h7], HI.out.put HI.out.rr.self 8 (by omega) 12 (by decide) rfl⟩
      · refine wpOp_shut rfl (fun K hK => ?_)
        have h8 := hI.2 8 (by omega) (ready_need hi (by kernel_rfl)); simp only [LinP, Nat.reduceEqDiff, if_false, if_true, Nat.reduceAdd] at h8
        have hw9 : IntKind.i64.wrap (1 + p1) = 1 + p1 := IntWalk.i64_in _ (by omega)
        have HI := Lib.hid hI
        clear hi hI hil
        try simp only [List.getElem_toArray, List.getElem_cons_succ, List.getElem_cons_zero]
        rw [if_pos (by rfl)]
        go_simp
        try simp only [Act.put, List.setIfInBounds_toArray, List.set_cons_zero, List.set_cons_succ]
        exact hK.out _ _ ⟨upd f 13 (.int .i64 (1 + p1)), by simp [upd, h8], HI.out.put HI.out.rr.self 9 (by omega) 13 (by decide) rfl⟩
      · refine wpOp_shut rfl (fun K hK => ?_)
        have HI := Lib.hid hI
        clear hi hI hil
        try simp only [List.getElem_toArray, List.getElem_cons_succ, List.getElem_cons_zero]
        rw [if_pos (by rfl)]
        go_simp
        try simp only [Act.put, List.setIfInBounds_toArray, List.set_cons_zero, List.set_cons_succ]
        exact hK.out _ _ ⟨upd f 14 (.slice (some ⟨wq.heap.size, 0, none⟩) 4 4), by simp [upd], HI.out.put (HI.out.rr.self.alloc _) 10 (by omega) 14 (by decide) ⟨_, rfl, Bk.new _ _ _⟩⟩
      · refine wpOp_shut rfl (fun K hK => ?_)
        have HI := Lib.hid hI
        clear hi hI hil
        try simp only [List.getElem_toArray, List.getElem_cons_succ, List.getElem_cons_zero]
        rw [if_pos (by rfl)]
        go_simp
        try simp only [Act.put, List.setIfInBounds_toArray, List.set_cons_zero, List.set_cons_succ]
        exact hK.out _ _ ⟨upd f 15 (.pointer (some ⟨w.heap.size, 2, none⟩)), by simp [upd], HI.out.put HI.out.rr.self 11 (by omega) 15 (by decide) rfl⟩
      · refine wpOp_shut rfl (fun K hK => ?_)
        have h11 := hI.2 11 (by omega) (ready_need hi (by kernel_rfl)); simp only [LinP, Nat.reduceEqDiff, if_false, if_true, Nat.reduceAdd] at h11
        obtain ⟨⟨x0, x1, x2, x3, x4⟩, _⟩ := five_of (HX.out.rel hI.1)
        have HI := Lib.hid hI
        clear hi hI hil
        try simp only [List.getElem_toArray, List.getElem_cons_succ, List.getElem_cons_zero]
        rw [if_pos (by rfl)]
        go_simp
        try simp only [Act.put, List.setIfInBounds_toArray, List.set_cons_zero, List.set_cons_succ]
        exact hK.out _ _ ⟨upd f 16 (.int .i64 r2), by simp [upd, h11], HI.out.put HI.out.rr.self 12 (by omega) 16 (by decide) rfl⟩
      · refine wpOp_shut rfl (fun K hK => ?_)
        have h12 := hI.2 12 (by omega) (ready_need hi (by kernel_rfl)); simp only [LinP, Nat.reduceEqDiff, if_false, if_true, Nat.reduceAdd] at h12
        have HI := Lib.hid hI
        clear hi hI hil
        try simp only [List.getElem_toArray, List.getElem_cons_succ, List.getElem_cons_zero]
        rw [if_pos (by rfl)]
        go_simp
        go_at_call 15
        (with_reducible refine (pick12_as r2 4 (k2 : Int) P2 i2.1 i2.2 (by omega) (by omega) _).mono ?_)
        rintro e w' ⟨rfl, rfl⟩
        try simp only [Act.put, List.setIfInBounds_toArray, List.set_cons_zero, List.set_cons_succ]
        exact hK.out _ _ ⟨upd f 17 (.int .i64 (k2 : Int)), by simp [upd, h12], HI.out.put HI.out.rr.self 13 (by omega) 17 (by decide) rfl⟩
      · refine wpOp_shut rfl (fun K hK => ?_)
        have h10 := hI.2 10 (by omega) (ready_need hi (by kernel_rfl)); simp only [LinP, Nat.reduceEqDiff, if_false, if_true, Nat.reduceAdd] at h10
        obtain ⟨q10, e10, b10⟩ := h10
        have h13 := hI.2 13 (by omega) (ready_need hi (by kernel_rfl)); simp only [LinP, Nat.reduceEqDiff, if_false, if_true, Nat.reduceAdd] at h13
        have lk : (k2 : Int) < 4 := by omega
        have HI := Lib.hid hI
        clear hi hI hil
        try simp only [List.getElem_toArray, List.getElem_cons_succ, List.getElem_cons_zero]
        rw [if_pos (by rfl)]
        go_simp
        try simp only [Act.put, List.setIfInBounds_toArray, List.set_cons_zero, List.set_cons_succ]
        exact hK.out _ _ ⟨upd f 18 (.pointer (some ⟨q10, k2, none⟩)), by simp [upd, e10, h13], HI.out.put HI.out.rr.self 14 (by omega) 18 (by decide) ⟨q10, rfl, b10⟩⟩
      · refine wpOp_shut rfl (fun K hK => ?_)
        have h14 := hI.2 14 (by omega) (ready_need hi (by kernel_rfl)); simp only [LinP, Nat.reduceEqDiff, if_false, if_true, Nat.reduceAdd] at h14
        obtain ⟨q14, e14, b14⟩ := h14
        have hc := sku_cell b14 k2 K2.out
        rw [S2.out] at hc
        have HI := Lib.hid hI
        clear hi hI hil
        try simp only [List.getElem_toArray, List.getElem_cons_succ, List.getElem_cons_zero]
        rw [if_pos (by rfl)]
        go_simp
        try simp only [Act.put, List.setIfInBounds_toArray, List.set_cons_zero, List.set_cons_succ]
        exact hK.out _ _ ⟨upd f 19 (.string s2), by simp [upd, e14], HI.out.put HI.out.rr.self 15 (by omega) 19 (by decide) rfl⟩
      · refine wpOp_shut rfl (fun K hK => ?_)
        have HI := Lib.hid hI
        clear hi hI hil
        try simp only [List.getElem_toArray, List.getElem_cons_succ, List.getElem_cons_zero]
        rw [if_pos (by rfl)]
        go_simp
        try simp only [Act.put, List.setIfInBounds_toArray, List.set_cons_zero, List.set_cons_succ]
        exact hK.out _ _ ⟨upd f 20 (.pointer (some ⟨w.heap.size, 3, none⟩)), by simp [upd], HI.out.put HI.out.rr.self 16 (by omega) 20 (by decide) rfl⟩
      · refine wpOp_shut rfl (fun K hK => ?_)
        have h16 := hI.2 16 (by omega) (ready_need hi (by kernel_rfl)); simp only [LinP, Nat.reduceEqDiff, if_false, if_true, Nat.reduceAdd] at h16
        obtain ⟨⟨x0, x1, x2, x3, x4⟩, _⟩ := five_of (HX.out.rel hI.1)
        have HI := Lib.hid hI
        clear hi hI hil
        try simp only [List.getElem_toArray, List.getElem_cons_succ, List.getElem_cons_zero]
        rw [if_pos (by rfl)]
        go_simp
        try simp only [Act.put, List.setIfInBounds_toArray, List.set_cons_zero, List.set_cons_succ]
        exact hK.out _ _ ⟨upd f 21 (.int .i64 r3), by simp [upd, h16], HI.out.put HI.out.rr.self 17 (by omega) 21 (by decide) rfl⟩
      · refine wpOp_shut rfl (fun K hK => ?_)
        have h17 := hI.2 17 (by omega) (ready_need hi (by kernel_rfl)); simp only [LinP, Nat.reduceEqDiff, if_false, if_true, Nat.reduceAdd] at h17
        have HI := Lib.hid hI
        clear hi hI hil
        try simp only [List.getElem_toArray, List.getElem_cons_succ, List.getElem_cons_zero]
        rw [if_pos (by rfl)]
        go_simp
        go_at_call 19
        (with_reducible refine (SE.out _ HI.out.rr.self).mono ?_)
        rintro e w' ⟨rfl, hw'⟩
        try simp only [Act.put, List.setIfInBounds_toArray, List.set_cons_zero, List.set_cons_succ]
        exact hK.out _ _ ⟨upd f 22 (.string s3), by simp [upd, h17], HI.out.put hw' 18 (by omega) 22 (by decide) rfl⟩
      · refine wpOp_shut rfl (fun K hK => ?_)
        have HI := Lib.hid hI
        clear hi hI hil
        try simp only [List.getElem_toArray, List.getElem_cons_succ, List.getElem_cons_zero]
        rw [if_pos (by rfl)]
        go_simp
        try simp only [Act.put, List.setIfInBounds_toArray, List.set_cons_zero, List.set_cons_succ]
        exact hK.out _ _ ⟨upd f 23 (.pointer (some ⟨w.heap.size, 4, none⟩)), by simp [upd], HI.out.put HI.out.rr.self 19 (by omega) 23 (by decide) rfl⟩
      · refine wpOp_shut rfl (fun K hK => ?_)
        have h19 := hI.2 19 (by omega) (ready_need hi (by kernel_rfl)); simp only [LinP, Nat.reduceEqDiff, if_false, if_true, Nat.reduceAdd] at h19
        obtain ⟨⟨x0, x1, x2, x3, x4⟩, _⟩ := five_of (HX.out.rel hI.1)
        have HI := Lib.hid hI
        clear hi hI hil
        try simp only [List.getElem_toArray, List.getElem_cons_succ, List.getElem_cons_zero]
        rw [if_pos (by rfl)]
        go_simp
        try simp only [Act.put, List.setIfInBounds_toArray, List.set_cons_zero, List.set_cons_succ]
        exact hK.out _ _ ⟨upd f 24 (.int .i64 r4), by simp [upd, h19], HI.out.put HI.out.rr.self 20 (by omega) 24 (by decide) rfl⟩
      · refine wpOp_shut rfl (fun K hK => ?_)
        have h20 := hI.2 20 (by omega) (ready_need hi (by kernel_rfl)); simp only [LinP, Nat.reduceEqDiff, if_false, if_true, Nat.reduceAdd] at h20
        have HI := Lib.hid hI
        clear hi hI hil
        try simp only [List.getElem_toArray, List.getElem_cons_succ, List.getElem_cons_zero]
        rw [if_pos (by rfl)]
        go_simp
        go_at_call 15
        (with_reducible refine (pick12_as r4 2500 p4 P4 i4.1 i4.2 (by omega) (by omega) _).mono ?_)
        rintro e w' ⟨rfl, rfl⟩
        try simp only [Act.put, List.setIfInBounds_toArray, List.set_cons_zero, List.set_cons_succ]
        exact hK.out _ _ ⟨upd f 25 (.int .i64 p4), by simp [upd, h20], HI.out.put HI.out.rr.self 21 (by omega) 25 (by decide) rfl⟩
      · refine wpOp_shut rfl (fun K hK => ?_)
        have h5 := hI.2 5 (by omega) (ready_need hi (by kernel_rfl)); simp only [LinP, Nat.reduceEqDiff, if_false, if_true, Nat.reduceAdd] at h5
        have h9 := hI.2 9 (by omega) (ready_need hi (by kernel_rfl)); simp only [LinP, Nat.reduceEqDiff, if_false, if_true, Nat.reduceAdd] at h9
        have h15 := hI.2 15 (by omega) (ready_need hi (by kernel_rfl)); simp only [LinP, Nat.reduceEqDiff, if_false, if_true, Nat.reduceAdd] at h15
        have h18 := hI.2 18 (by omega) (ready_need hi (by kernel_rfl)); simp only [LinP, Nat.reduceEqDiff, if_false, if_true, Nat.reduceAdd] at h18
        have h21 := hI.2 21 (by omega) (ready_need hi (by kernel_rfl)); simp only [LinP, Nat.reduceEqDiff, if_false, if_true, Nat.reduceAdd] at h21
        have HI := Lib.hid hI
        clear hi hI hil
        try simp only [List.getElem_toArray, List.getElem_cons_succ, List.getElem_cons_zero]
        rw [if_pos (by rfl)]
        go_simp
        try simp only [Act.put, List.setIfInBounds_toArray, List.set_cons_zero, List.set_cons_succ]
        exact hK.out _ _ ⟨upd f 26 (.agg #[.string s0, .int .i64 (1 + p1), .string s2, .string s3, .int .i64 p4]), by simp [upd, h5, h9, h15, h18, h21], HI.out.put HI.out.rr.self 22 (by omega) 26 (by decide) rfl⟩
      · refine wpOp_shut rfl (fun K hK => ?_)
        have HI := Lib.hid hI
        clear hi hI hil
        try simp only [List.getElem_toArray, List.getElem_cons_succ, List.getElem_cons_zero]
        rw [if_pos (by rfl)]
        go_simp
        try simp only [Act.put, List.setIfInBounds_toArray, List.set_cons_zero, List.set_cons_succ]
        exact hK.out _ _ ⟨upd f 3 (.pointer (some ⟨wq.heap.size, 0, none⟩)), by simp [upd], HI.out.put (HI.out.rr.self.alloc _) 23 (by omega) 3 (by decide) ⟨_, rfl, Bk.new _ _ _, HI.out.rr.size⟩⟩
    · rintro l a wq ⟨f, rfl, hI⟩ hl
      have h22 := hI.2 22 (by omega) (hl 22 (by omega) (by omega)); simp only [LinP, Nat.reduceEqDiff, if_false, if_true, Nat.reduceAdd] at h22
      have h23 := hI.2 23 (by omega) (hl 23 (by omega) (by omega)); simp only [LinP, Nat.reduceEqDiff, if_false, if_true, Nat.reduceAdd] at h23
      obtain ⟨q, e23, b23, lq⟩ := h23
      obtain ⟨⟨y0, y1, y2, y3, y4⟩, y5, y6, y7, y8, y9⟩ := five_of b23
      have HI := Lib.hid hI.1
      have HB := Lib.hid b23
      have HQ := Lib.hid lq
      clear hI hl b23 lq
      refine wpOp_shut rfl (fun K hK => ?_)
      try simp only [List.getElem_toArray, List.getElem_cons_succ, List.getElem_cons_zero]
      rw [if_pos (by rfl)]
      go_simp
      refine hK.out _ _ ?_
      try simp only [Act.put, List.setIfInBounds_toArray, List.set_cons_zero, List.set_cons_succ]
      go_wp2_with (fail)
      go_meet
      exact ⟨_, q, rfl, rfl, Lib.hid (HB.out.put5 (.string s0) (.int .i64 (1 + p1)) (.string s2) (.string s3) (.int .i64 p4)), Lib.hid (Rel.put5 HI.out HQ.out _ _ _ _ _), HQ⟩
  obtain ⟨V1, G, rfl, rfl, HB, HV1, HG⟩ := hcut
  have hG := HG.out
  have hGz : w.heap.size + 1 < G := by omega
  obtain ⟨⟨x0, x1, x2, x3, x4⟩, _⟩ := five_of (HX.out.rel HV1.out)
  obtain ⟨⟨y0, y1, y2, y3, y4⟩, y5, y6, y7, y8, y9⟩ := five_of HB.out
  have HZ := Lib.hid (HZ0.out.rel HV1.out)
  obtain ⟨⟨z0, z1, z2, z3, z4⟩, z5, z6, z7, z8, z9⟩ := five_of HZ.out
  have lw : w.heap.size + 1 < V1.heap.size := HZ.out.lt
  by_cases h0 : m = 0
  · have hb : (m == 0) = true := by simpa using h0
    have HF := Lib.hid (show lineF (r0, r1, r2, r3, r4) = (srcL.getD k0 [], 1 + p1, skuL.getD k2 [], sellerL (pk r3 60), 0) from by rw [HL.out, if_pos h0]; rfl)
    have HZ1 := Lib.hid (HZ.out.far (p := ⟨G, 4, none⟩) (by show w.heap.size + 1 ≠ G; omega) (.int .i64 0))
    have HR1 := Lib.hid (((HR.out.trans HW.out).trans HV1.out).setCell (p := ⟨G, 4, none⟩) (show w0.heap.size ≤ G by have := HR.out.size; omega) (.int .i64 0))
    obtain ⟨⟨q0, q1, q2, q3, q4⟩, _⟩ := five_of (HZ1.out.put5 (.string s0) (.int .i64 (1 + p1)) (.string s2) (.string s3) (.int .i64 0))
    clear h0 HM m0 t9 HV
    go_wp2_with (fail)
    exact bodyPost_ret (v := .agg #[.string s0, .int .i64 (1 + p1), .string s2, .string s3, .int .i64 0]) (by simp [results, Tryd.results10, go_sem, q0, q1, q2, q3, q4]) rfl ⟨by rw [HF.out, ← S0.out, ← S2.out, ← S3.out], HR1.out.put5 (show w0.heap.size ≤ w.heap.size + 1 by have := HR.out.size; omega) _ _ _ _ _⟩
  · have hb : (m == 0) = false := by simpa using h0
    have HF := Lib.hid (show lineF (r0, r1, r2, r3, r4) = (srcL.getD k0 [], 1 + p1, skuL.getD k2 [], sellerL (pk r3 60), p4) from by rw [HL.out, if_neg h0]; rfl)
    have HR1 := Lib.hid ((HR.out.trans HW.out).trans HV1.out)
    obtain ⟨⟨q0, q1, q2, q3, q4⟩, _⟩ := five_of (HZ.out.put5 (.string s0) (.int .i64 (1 + p1)) (.string s2) (.string s3) (.int .i64 p4))
    clear h0 HM m0 t9 HV
    go_wp2_with (fail)
    exact bodyPost_ret (v := .agg #[.string s0, .int .i64 (1 + p1), .string s2, .string s3, .int .i64 p4]) (by simp [results, Tryd.results10, go_sem, q0, q1, q2, q3, q4]) rfl ⟨by rw [HF.out, ← S0.out, ← S2.out, ← S3.out], HR1.out.put5 (show w0.heap.size ≤ w.heap.size + 1 by have := HR.out.size; omega) _ _ _ _ _⟩
end Go.Proofs.YtkpgplafcoabnaaDoor
