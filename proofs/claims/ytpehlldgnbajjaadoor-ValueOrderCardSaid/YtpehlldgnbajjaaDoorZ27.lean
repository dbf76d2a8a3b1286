/- What the landed Print and Right tell: all that the laws ask of the program; What the landed package value tells; Appending a slice of offers, whatever its length, to offers of the call's own; a price of one's own changed; A load taken first, more: two operations that may come up; what stands behind all that waits for the load. -/
import Derived.Test.YtpehlldgnbajjaaDoorZ26
import Derived.Test.YtpehlldgnbajjaaDoorZ13
import Derived.Test.YtpehlldgnbajjaaDoorZ20
import Derived.Test.YtpehlldgnbajjaaDoorZ23
import Derived.Test.YtpehlldgnbajjaaDoorZ14
import Derived.Maps.AppendAt
import Derived.Laws.OwnMore
import Derived.Test.YtpehlldgnbajjaaDoorZ04
import Derived.RegionTactic
namespace Go.Proofs.YtpehlldgnbajjaaDoor
open Go.RowKit Go.Lib
set_option linter.unusedVariables false
set_option linter.unusedSimpArgs false

theorem pr_new (w : World) (o : Obj) : Pr w.heap.size (w.heap.size + 1) [] 0 ((w.alloc o).alloc (.cells #[.pointer none, .slice none 0 0, .int .i64 0] 76)) := by
  have hb := Bk.new (w.alloc o) 76 #[.pointer none, .slice none 0 0, .int .i64 0]
  rw [World.size_alloc] at hb
  exact .inl ⟨by omega, _, hb, World.ownsRowF_of (World.ownsRow_nil _ _ _ _), by simp [Value.ownBlock]⟩
theorem right_of {x : Ex} (hc : isCond x.k = false) : rightX x = true ↔ fine (32 - 0) x = true ∧ ([] : List UInt8).length + (text x).length ≤ 2000 := by
  simp only [rightX, hc, Bool.and_eq_true, decide_eq_true_eq, List.length_nil, Nat.sub_zero, Nat.zero_add, Bool.not_false, and_true]
  constructor
  · rintro ⟨⟨a, _⟩, b⟩; exact ⟨a, b⟩
  · rintro ⟨a, b⟩; exact ⟨⟨a, by have := text_more x 32 a; omega⟩, b⟩
set_option maxRecDepth 100000 in
set_option maxHeartbeats 4000000 in
theorem tprint_any : PrintOk := fun x S e w0 w hr h hz => by
  have HR := Lib.hid hr
  obtain ⟨k, n, nm, A, m, c⟩ := e
  have hke : x.k = k := h.kind
  have HB := Lib.hid ((Bk.new w 27 #[.int .i64 k, .int .i64 n, .string (B nm), .slice A m c]).alloc (.cells #[.pointer none, .slice none 0 0, .int .i64 0] 76))
  have HA := Lib.hid ((hr.self.alloc (.cells #[.int .i64 k, .int .i64 n, .string (B nm), .slice A m c] 27)).alloc (.cells #[.pointer none, .slice none 0 0, .int .i64 0] 76))
  have HP := Lib.hid (pr_new w (.cells #[.int .i64 k, .int .i64 n, .string (B nm), .slice A m c] 27))
  obtain ⟨⟨c0, c1, c2, c3⟩, _⟩ := HB.out.four
  obtain ⟨bc, hbc⟩ : ∃ b, isCond k = b := ⟨_, rfl⟩
  have HBc := Lib.hid hbc
  cases bc with
  | true =>
    have HX := Lib.hid (show prT x = [] ∧ prE x = 1 by
      have : rightX x = false := by unfold rightX; rw [hke, hbc]; simp
      unfold prT prE; rw [this]; exact ⟨rfl, rfl⟩)
    clear h hbc
    go_enter Tryd.func32, Tryd.ntmps32
    go_wp2_with (go_at_call 46; (with_reducible refine (tcond_as k n (B nm) A m c true HBc _ _ HA.out.self).mono ?_); rintro e w2 ⟨rfl, h2⟩; obtain ⟨⟨d0, d1, d2, d3⟩, _⟩ := (HB.out.rel h2).four)
    go_ret2
    exact ⟨by rw [HX.out.1, HX.out.2]; rfl, (HR.out.trans HA.out).trans h2⟩
  | false =>
    obtain ⟨t, ht⟩ : ∃ t, rightX x = t := ⟨_, rfl⟩
    have hti : t = true ↔ fine (32 - 0) x = true ∧ ([] : List UInt8).length + (text x).length ≤ 2000 := by rw [← ht]; exact right_of (by rw [hke]; exact hbc)
    have HC := Lib.hid (fun (w2 : World) (h2 : Rel w w2) (hp : Pr w.heap.size (w.heap.size + 1) [] 0 w2) => pexpr_any x S (k, n, nm, A, m, c) (w.heap.size + 1) [] 0 t w w2 h2 h hp (by omega) (by simp) hz (Lib.hid hti))
    have HX := Lib.hid (show prT x = (if t then text x else []) ∧ prE x = (if t then 0 else 1) by unfold prT prE; rw [ht]; exact ⟨rfl, rfl⟩)
    have HNe := Lib.hid (show t = true → [] ++ text x ≠ [] from fun e => by
      have h1 := text_more x 32 (hti.1 e).1
      have h2 := size_pos x
      intro h
      rw [List.nil_append] at h
      rw [h, List.length_nil] at h1
      omega)
    clear h hbc hti ht
    cases t with
    | false =>
      go_enter Tryd.func32, Tryd.ntmps32
      go_wp2_with (first
        | (go_at_call 46; (with_reducible refine (tcond_as k n (B nm) A m c false HBc _ _ HA.out.self).mono ?_); rintro e w2 ⟨rfl, h2⟩; obtain ⟨⟨d0, d1, d2, d3⟩, _⟩ := (HB.out.rel h2).four)
        | (go_at_call 47; (with_reducible refine (HC.out _ (HA.out.trans h2) (HP.out.rel h2)).mono ?_); rintro e w3 ⟨rfl, p3, r3, k3⟩))
      go_ret2
      exact ⟨by rw [HX.out.1, HX.out.2]; rfl, HR.out.trans r3⟩
    | true =>
      go_enter Tryd.func32, Tryd.ntmps32
      go_wp2_with (first
        | (go_at_call 46; (with_reducible refine (tcond_as k n (B nm) A m c false HBc _ _ HA.out.self).mono ?_); rintro e w2 ⟨rfl, h2⟩; obtain ⟨⟨d0, d1, d2, d3⟩, _⟩ := (HB.out.rel h2).four)
        | (go_at_call 47; (with_reducible refine (HC.out _ (HA.out.trans h2) (HP.out.rel h2)).mono ?_); rintro e w3 ⟨rfl, p3, r3, k3⟩)
        | (go_at_call 48; (with_reducible refine (string_any (w.heap.size + 1) ([] ++ text x) 0 w _ r3 (by first | exact p3 rfl | exact p3 trivial) (by first | exact HNe.out rfl | exact HNe.out trivial)).mono ?_); rintro e w4 ⟨rfl, r4⟩))
      go_ret2
      exact ⟨by rw [HX.out.1, HX.out.2]; rfl, HR.out.trans r4⟩
set_option maxRecDepth 100000 in
set_option maxHeartbeats 2000000 in
theorem tright_any : RightOk := fun x S e w0 w hr h hz => by
  have HR := Lib.hid hr
  obtain ⟨k, n, nm, A, m, c⟩ := e
  have HA := Lib.hid (hr.self.alloc (.cells #[.int .i64 k, .int .i64 n, .string (B nm), .slice A m c] 27))
  have HP := Lib.hid (fun (w' : World) (h' : Rel w w') => tprint_any x S (k, n, nm, A, m, c) w' w' (hr.trans h').self (h.rel h') hz)
  obtain ⟨T, hT⟩ : ∃ T, B (prT x) = T := ⟨_, rfl⟩
  rw [hT] at HP
  clear hT
  cases hx : rightX x
  · have he : prE x = 1 := by unfold prE; rw [hx]; rfl
    rw [he] at HP
    clear h he hx
    go_enter Tryd.func18, Tryd.ntmps18
    go_wp2_with (go_at_call 32; (with_reducible refine (HP.out _ HA.out).mono ?_); rintro e w2 ⟨rfl, h2⟩)
    go_ret
    exact ⟨rfl, (HR.out.trans HA.out).trans h2⟩
  · have he : prE x = 0 := by unfold prE; rw [hx]; rfl
    rw [he] at HP
    clear h he hx
    go_enter Tryd.func18, Tryd.ntmps18
    go_wp2_with (go_at_call 32; (with_reducible refine (HP.out _ HA.out).mono ?_); rintro e w2 ⟨rfl, h2⟩)
    go_ret
    exact ⟨rfl, (HR.out.trans HA.out).trans h2⟩
end Go.Proofs.YtpehlldgnbajjaaDoor

namespace Go.Proofs.YtpehlldgnbajjaaDoor
open Go.RowKit Go.Lib
set_option linter.unusedVariables false
set_option linter.unusedSimpArgs false

theorem plw_at (S : Nat → Prop) (w : World) : ExAt S w (1, 0, [], none, 0, 0) exLw := ExAt.leaf S w 1 0 [] none 0 ⟨by decide, by decide⟩ ⟨by decide, by decide⟩ (Nat.zero_le _)
theorem ri_ok (o : Option Int) : RV (.ok o) = .tuple #[.int .i64 (o.getD 0), .bool o.isSome, .int .i64 0] := by cases o <;> rfl
set_option maxRecDepth 100000 in
set_option maxHeartbeats 4000000 in
theorem vmay_any (x : Ex) (S : Nat → Prop) (e : El) (w0 w : World) (hr : Rel w0 w) (h : ExAt S w e x) (hz : size x ≤ 90000) :
    Calls Tryd.prog 24 #[EV e] w fun z w' => z = .returned (.bool (rightX (ifX x))) ∧ Rel w0 w' := by
  have HR := Lib.hid hr
  obtain ⟨k, n, nm, A', m, c'⟩ := e
  have HB := Lib.hid ((Bk.new w 27 #[.int .i64 k, .int .i64 n, .string (B nm), .slice A' m c']).alloc (.cells #[.int .i64 1, .int .i64 0, .string ⟨#[]⟩, .slice none 0 0] 27))
  have HL := Lib.hid (Bk.snd w #[.int .i64 k, .int .i64 n, .string (B nm), .slice A' m c'] #[.int .i64 1, .int .i64 0, .string ⟨#[]⟩, .slice none 0 0] 27 27)
  have HA := Lib.hid ((hr.self.alloc (.cells #[.int .i64 k, .int .i64 n, .string (B nm), .slice A' m c'] 27)).alloc (.cells #[.int .i64 1, .int .i64 0, .string ⟨#[]⟩, .slice none 0 0] 27))
  obtain ⟨W, hW⟩ : ∃ W, (w.alloc (.cells #[.int .i64 k, .int .i64 n, .string (B nm), .slice A' m c'] 27)).alloc (.cells #[.int .i64 1, .int .i64 0, .string ⟨#[]⟩, .slice none 0 0] 27) = W := ⟨_, rfl⟩
  rw [hW] at HA HB HL
  have hc2 : ∀ (w1 : World) (hh : Rel w w1), Calls Tryd.prog 18 #[.agg #[.int .i64 10, .int .i64 0, .string ⟨#[]⟩, .slice (some ⟨w1.heap.size, 0, none⟩) 3 3]] (w1.alloc (.cells #[.int .i64 k, .int .i64 n, .string (B nm), .slice A' m c', .int .i64 1, .int .i64 0, .string ⟨#[]⟩, .slice none 0 0, .int .i64 1, .int .i64 0, .string ⟨#[]⟩, .slice none 0 0] 27)) fun z w' => z = .returned (.bool (rightX (ifX x))) ∧ Rel w1 w' := fun w1 hh => by
    have r1 := (hr.trans hh).self
    have ra := r1.alloc (.cells #[.int .i64 k, .int .i64 n, .string (B nm), .slice A' m c', .int .i64 1, .int .i64 0, .string ⟨#[]⟩, .slice none 0 0, .int .i64 1, .int .i64 0, .string ⟨#[]⟩, .slice none 0 0] 27)
    have hb := Bk.new w1 27 #[.int .i64 k, .int .i64 n, .string (B nm), .slice A' m c', .int .i64 1, .int .i64 0, .string ⟨#[]⟩, .slice none 0 0, .int .i64 1, .int .i64 0, .string ⟨#[]⟩, .slice none 0 0]
    have ha := ExAt.three (S := fun _ => True) (a := (k, n, nm, A', m, c')) (b := (1, 0, [], none, 0, 0)) (d := (1, 0, [], none, 0, 0)) (k := 10) (n := 0) (nm := []) (c := 3) (ok64 (by decide) (by decide)) (ok64 (by decide) (by decide)) (Nat.zero_le _) hb trivial ((h.rel (hh.trans ra)).weak (fun _ _ => trivial)) (plw_at _ _) (plw_at _ _)
    exact tright_any (ifX x) _ (10, 0, [], some ⟨w1.heap.size, 0, none⟩, 3, 3) w1 _ ra ha (by rw [ifX_size]; omega)
  obtain ⟨b2, h2⟩ : ∃ b, rightX (ifX x) = b := ⟨_, rfl⟩
  rw [h2] at hc2 ⊢
  have HC2 := Lib.hid hc2
  obtain ⟨⟨b0, b1, b2', b3⟩, _⟩ := HB.out.four
  obtain ⟨⟨l0, l1, l2, l3⟩, _⟩ := HL.out.four
  have HW := Lib.hid hW
  clear h hc2 hr h2 hW
  go_enter Tryd.func24, Tryd.ntmps24
  go_upto_region 2 with (fail)
  rw [HW.out]
  go_wp2_with (go_at_call 18; (with_reducible refine (HC2.out _ HA.out).mono ?_); rintro e w2 ⟨rfl, r2⟩)
  go_ret
  exact ⟨rfl, HR.out.trans (HA.out.trans r2)⟩
set_option maxRecDepth 100000 in
set_option maxHeartbeats 4000000 in
theorem veval_any : EvalOk := fun x S e A c os w0 w hr h hz ho => by
  have HR := Lib.hid hr
  have HE := Lib.hid h
  have HO := Lib.hid ho
  obtain ⟨k, n, nm, A', m, c'⟩ := e
  have HB := Lib.hid ((Bk.new w 27 #[.int .i64 k, .int .i64 n, .string (B nm), .slice A' m c']).alloc (.cells #[.slice A os.length c] 29))
  have HL := Lib.hid (Bk.snd w #[.int .i64 k, .int .i64 n, .string (B nm), .slice A' m c'] #[.slice A os.length c] 27 29)
  have HA := Lib.hid ((hr.self.alloc (.cells #[.int .i64 k, .int .i64 n, .string (B nm), .slice A' m c'] 27)).alloc (.cells #[.slice A os.length c] 29))
  obtain ⟨W, hW⟩ : ∃ W, (w.alloc (.cells #[.int .i64 k, .int .i64 n, .string (B nm), .slice A' m c'] 27)).alloc (.cells #[.slice A os.length c] 29) = W := ⟨_, rfl⟩
  rw [hW] at HA HB HL
  have hc1 := fun (w' : World) (hh : Rel w w') => vright9_any A c os w' w' (hr.self.trans hh).self (ho.rel hh)
  have hc2 := fun (w' : World) (hh : Rel w w') => tright_any x S (k, n, nm, A', m, c') w' w' (hr.self.trans hh).self (h.rel hh) (by omega)
  obtain ⟨b1, h1⟩ : ∃ b, offsOk os = b := ⟨_, rfl⟩
  obtain ⟨b2, h2⟩ : ∃ b, rightX x = b := ⟨_, rfl⟩
  rw [h1] at hc1
  rw [h2] at hc2
  have HC1 := Lib.hid hc1
  have HC2 := Lib.hid hc2
  have H1 := Lib.hid h1
  have H2 := Lib.hid h2
  obtain ⟨⟨x0, x1, x2, x3⟩, _⟩ := HB.out.four
  have l0 := HL.out.cell 0
  simp only [List.getElem?_toArray, List.getElem?_cons_zero] at l0
  clear h ho hc1 hc2 h1 h2 hr
  have key : b1 = false ∨ b2 = false ∨ (b1 = true ∧ b2 = true) := by cases b1 <;> cases b2 <;> simp
  have bad : b1 = false ∨ b2 = false → Hid (evalS os x = .error 1) := fun hb => Lib.hid (by
    unfold evalS; rw [H1.out, H2.out]
    rcases hb with rfl | rfl
    · rfl
    · rw [Bool.and_false]; rfl)
  rcases key with rfl | rfl | ⟨rfl, rfl⟩
  · have HF := bad (.inl rfl)
    clear bad
    go_enter Tryd.func11, Tryd.ntmps11
    rw [HF.out]
    go_wp2_with (go_at_call 16; (with_reducible refine (HC1.out _ HA.out).mono ?_); rintro e w1 ⟨rfl, r1⟩; have R1 := Lib.hid (HA.out.trans r1); obtain ⟨⟨d0, d1, d2, d3⟩, _⟩ := (HB.out.rel r1).four)
    go_ret3
    exact ⟨rfl, HR.out.trans R1.out⟩
  · have HF := bad (.inr rfl)
    clear bad
    go_enter Tryd.func11, Tryd.ntmps11
    rw [HF.out]
    cases b1
    · go_wp2_with (go_at_call 16; (with_reducible refine (HC1.out _ HA.out).mono ?_); rintro e w1 ⟨rfl, r1⟩; have R1 := Lib.hid (HA.out.trans r1); obtain ⟨⟨d0, d1, d2, d3⟩, _⟩ := (HB.out.rel r1).four)
      go_ret3
      exact ⟨rfl, HR.out.trans R1.out⟩
    · go_wp2_with (first
        | (go_at_call 16; (with_reducible refine (HC1.out _ HA.out).mono ?_); rintro e w1 ⟨rfl, r1⟩; have R1 := Lib.hid (HA.out.trans r1); obtain ⟨⟨d0, d1, d2, d3⟩, _⟩ := (HB.out.rel r1).four)
        | (go_at_call 18; (with_reducible refine (HC2.out _ R1.out).mono ?_); rintro e w2 ⟨rfl, r2⟩; have R2 := Lib.hid (R1.out.trans r2)))
      go_ret3
      exact ⟨rfl, HR.out.trans R2.out⟩
  · clear bad
    have HF : evalS os x = toldN os 32 x := by unfold evalS; rw [H1.out, H2.out]; rfl
    rw [HF]
    clear HF
    have hT := fun (w' : World) (hh : Rel w w') => (ptold_all 32).1 x S (k, n, nm, A', m, c') A c os w' w' (right_fine H2.out).1 (right_fine H2.out).2 (HR.out.trans hh).self (HE.out.rel hh) H1.out (HO.out.rel hh)
    cases hq : toldN os 32 x with
    | error er =>
      have he := told_err _ _ _ _ hq
      subst he
      have hT := fun (w' : World) (hh : Rel w w') => tp_no (hT w' hh) hq
      have HK := Lib.hid (fun (w' : World) (hh : Rel W w') => vreckon_no (w.heap.size + 1) w.heap.size w' w' hh.self (fun w2 h2 => veval1_no k n nm A' m c' (.slice A os.length c) (w.heap.size + 1) w.heap.size w2 w2 h2.self (HL.out.rel (hh.trans h2)) (HB.out.rel (hh.trans h2)) (fun w3 h3 => hT w3 ((HA.out.trans hh).trans (h2.trans h3)))))
      clear hT hq
      go_enter Tryd.func11, Tryd.ntmps11
      go_upto_region 4 with (first
        | (go_at_call 16; (with_reducible refine (HC1.out _ HA.out).mono ?_); rintro e w1 ⟨rfl, r1⟩; have R1 := Lib.hid (HA.out.trans r1); obtain ⟨⟨d0, d1, d2, d3⟩, _⟩ := (HB.out.rel r1).four)
        | (go_at_call 18; (with_reducible refine (HC2.out _ R1.out).mono ?_); rintro e w2 ⟨rfl, r2⟩; have R2 := Lib.hid (R1.out.trans r2))
        | (go_at_call 19; (with_reducible refine (HK.out _ (HA.out.self.trans (r1.trans r2))).mono ?_); rintro e w3 ⟨rfl, r3⟩; have R3 := Lib.hid (R2.out.trans r3)))
      have HU := Lib.hid (Bk.new w3 52 #[.int .i64 0, .bool false])
      have RU := Lib.hid (R3.out.alloc (.cells #[.int .i64 0, .bool false] 52))
      obtain ⟨U, hU⟩ : ∃ U, w3.alloc (.cells #[.int .i64 0, .bool false] 52) = U := ⟨_, rfl⟩
      rw [hU] at HU RU ⊢
      clear hU
      obtain ⟨⟨p0, p1⟩, _⟩ := HU.out.two
      go_quiet (fail)
      go_wp2_with (fail)
      go_ret3
      exact ⟨rfl, (HR.out.trans RU.out).drewN _⟩
    | ok o =>
      rw [ri_ok]
      obtain ⟨V, hV⟩ : ∃ V, o.getD 0 = V := ⟨_, rfl⟩
      obtain ⟨b, hb⟩ : ∃ b, o.isSome = b := ⟨_, rfl⟩
      rw [hV, hb]
      have hT := fun (w' : World) (hh : Rel w w') => tp_ok (hT w' hh) hq hV hb
      have HK := Lib.hid (fun (w' : World) (hh : Rel W w') => vreckon_ok (w.heap.size + 1) w.heap.size V b w' w' hh.self (fun w2 h2 => veval1_ok k n nm A' m c' (.slice A os.length c) (w.heap.size + 1) w.heap.size V b w2 w2 h2.self (HL.out.rel (hh.trans h2)) (HB.out.rel (hh.trans h2)) (fun w3 h3 => hT w3 ((HA.out.trans hh).trans (h2.trans h3)))))
      clear hT hq hV hb
      go_enter Tryd.func11, Tryd.ntmps11
      go_upto_region 4 with (first
        | (go_at_call 16; (with_reducible refine (HC1.out _ HA.out).mono ?_); rintro e w1 ⟨rfl, r1⟩; have R1 := Lib.hid (HA.out.trans r1); obtain ⟨⟨d0, d1, d2, d3⟩, _⟩ := (HB.out.rel r1).four)
        | (go_at_call 18; (with_reducible refine (HC2.out _ R1.out).mono ?_); rintro e w2 ⟨rfl, r2⟩; have R2 := Lib.hid (R1.out.trans r2))
        | (go_at_call 19; (with_reducible refine (HK.out _ (HA.out.self.trans (r1.trans r2))).mono ?_); rintro e w3 ⟨rfl, r3⟩; have R3 := Lib.hid (R2.out.trans r3)))
      have HU := Lib.hid (Bk.new w3 52 #[.int .i64 V, .bool b])
      have RU := Lib.hid (R3.out.alloc (.cells #[.int .i64 V, .bool b] 52))
      obtain ⟨U, hU⟩ : ∃ U, w3.alloc (.cells #[.int .i64 V, .bool b] 52) = U := ⟨_, rfl⟩
      rw [hU] at HU RU ⊢
      clear hU
      obtain ⟨⟨p0, p1⟩, _⟩ := HU.out.two
      go_quiet (fail)
      go_wp2_with (fail)
      go_ret3
      exact ⟨rfl, (HR.out.trans RU.out).drewN _⟩
set_option maxRecDepth 100000 in
set_option maxHeartbeats 4000000 in
theorem vcond_any : CondOk := fun x S e A c os w0 w hr h hz ho => by
  have HR := Lib.hid hr
  have HE := Lib.hid h
  have HO := Lib.hid ho
  obtain ⟨k, n, nm, A', m, c'⟩ := e
  have HB := Lib.hid ((Bk.new w 27 #[.int .i64 k, .int .i64 n, .string (B nm), .slice A' m c']).alloc (.cells #[.slice A os.length c] 29))
  have HL := Lib.hid (Bk.snd w #[.int .i64 k, .int .i64 n, .string (B nm), .slice A' m c'] #[.slice A os.length c] 27 29)
  have HA := Lib.hid ((hr.self.alloc (.cells #[.int .i64 k, .int .i64 n, .string (B nm), .slice A' m c'] 27)).alloc (.cells #[.slice A os.length c] 29))
  obtain ⟨W, hW⟩ : ∃ W, (w.alloc (.cells #[.int .i64 k, .int .i64 n, .string (B nm), .slice A' m c'] 27)).alloc (.cells #[.slice A os.length c] 29) = W := ⟨_, rfl⟩
  rw [hW] at HA HB HL
  have hc1 := fun (w' : World) (hh : Rel w w') => vright9_any A c os w' w' (hr.self.trans hh).self (ho.rel hh)
  have hc2 := fun (w' : World) (hh : Rel w w') => vmay_any x S (k, n, nm, A', m, c') w' w' (hr.self.trans hh).self (h.rel hh) hz
  obtain ⟨b1, h1⟩ : ∃ b, offsOk os = b := ⟨_, rfl⟩
  obtain ⟨b2, h2⟩ : ∃ b, rightX (ifX x) = b := ⟨_, rfl⟩
  rw [h1] at hc1
  rw [h2] at hc2
  have HC1 := Lib.hid hc1
  have HC2 := Lib.hid hc2
  have H1 := Lib.hid h1
  have H2 := Lib.hid h2
  obtain ⟨⟨x0, x1, x2, x3⟩, _⟩ := HB.out.four
  have l0 := HL.out.cell 0
  simp only [List.getElem?_toArray, List.getElem?_cons_zero] at l0
  clear h ho hc1 hc2 h1 h2 hr
  have key : b1 = false ∨ b2 = false ∨ (b1 = true ∧ b2 = true) := by cases b1 <;> cases b2 <;> simp
  have bad : b1 = false ∨ b2 = false → Hid (condS os x = .error 1) := fun hb => Lib.hid (by
    unfold condS; rw [H1.out, H2.out]
    rcases hb with rfl | rfl
    · rfl
    · rw [Bool.and_false]; rfl)
  rcases key with rfl | rfl | ⟨rfl, rfl⟩
  · have HF := bad (.inl rfl)
    clear bad
    go_enter Tryd.func15, Tryd.ntmps15
    rw [HF.out]
    go_wp2_with (go_at_call 16; (with_reducible refine (HC1.out _ HA.out).mono ?_); rintro e w1 ⟨rfl, r1⟩; have R1 := Lib.hid (HA.out.trans r1); obtain ⟨⟨d0, d1, d2, d3⟩, _⟩ := (HB.out.rel r1).four)
    go_ret2
    exact ⟨rfl, HR.out.trans R1.out⟩
  · have HF := bad (.inr rfl)
    clear bad
    go_enter Tryd.func15, Tryd.ntmps15
    rw [HF.out]
    cases b1
    · go_wp2_with (go_at_call 16; (with_reducible refine (HC1.out _ HA.out).mono ?_); rintro e w1 ⟨rfl, r1⟩; have R1 := Lib.hid (HA.out.trans r1); obtain ⟨⟨d0, d1, d2, d3⟩, _⟩ := (HB.out.rel r1).four)
      go_ret2
      exact ⟨rfl, HR.out.trans R1.out⟩
    · go_wp2_with (first
        | (go_at_call 16; (with_reducible refine (HC1.out _ HA.out).mono ?_); rintro e w1 ⟨rfl, r1⟩; have R1 := Lib.hid (HA.out.trans r1); obtain ⟨⟨d0, d1, d2, d3⟩, _⟩ := (HB.out.rel r1).four)
        | (go_at_call 24; (with_reducible refine (HC2.out _ R1.out).mono ?_); rintro e w2 ⟨rfl, r2⟩; have R2 := Lib.hid (R1.out.trans r2)))
      go_ret2
      exact ⟨rfl, HR.out.trans R2.out⟩
  · clear bad
    have HF : condS os x = condN os 32 x := by unfold condS; rw [H1.out, H2.out]; rfl
    rw [HF]
    clear HF
    have hT := fun (w' : World) (hh : Rel w w') => (ptold_all 32).2 x S (k, n, nm, A', m, c') A c os w' w' (ifX_fine H2.out).1 (ifX_fine H2.out).2 (HR.out.trans hh).self (HE.out.rel hh) H1.out (HO.out.rel hh)
    cases hq : condN os 32 x with
    | error er =>
      have he := cond_err _ _ _ _ hq
      subst he
      rw [hq] at hT
      have HK := Lib.hid (fun (w' : World) (hh : Rel W w') => vreckonb_no (w.heap.size + 1) w.heap.size w' w' hh.self (fun w2 h2 => vcond1_no k n nm A' m c' (.slice A os.length c) (w.heap.size + 1) w.heap.size w2 w2 h2.self (HL.out.rel (hh.trans h2)) (HB.out.rel (hh.trans h2)) (fun w3 h3 => hT w3 ((HA.out.trans hh).trans (h2.trans h3)))))
      clear hT hq
      go_enter Tryd.func15, Tryd.ntmps15
      go_wp2_with (first
        | (go_at_call 16; (with_reducible refine (HC1.out _ HA.out).mono ?_); rintro e w1 ⟨rfl, r1⟩; have R1 := Lib.hid (HA.out.trans r1); obtain ⟨⟨d0, d1, d2, d3⟩, _⟩ := (HB.out.rel r1).four)
        | (go_at_call 24; (with_reducible refine (HC2.out _ R1.out).mono ?_); rintro e w2 ⟨rfl, r2⟩; have R2 := Lib.hid (R1.out.trans r2))
        | (go_at_call 25; (with_reducible refine (HK.out _ (HA.out.self.trans (r1.trans r2))).mono ?_); rintro e w3 ⟨rfl, r3⟩; have R3 := Lib.hid (R2.out.trans r3)))
      go_ret2
      exact ⟨rfl, HR.out.trans R3.out⟩
    | ok b =>
      rw [hq] at hT
      have HK := Lib.hid (fun (w' : World) (hh : Rel W w') => vreckonb_ok (w.heap.size + 1) w.heap.size b w' w' hh.self (fun w2 h2 => vcond1_ok k n nm A' m c' (.slice A os.length c) (w.heap.size + 1) w.heap.size b w2 w2 h2.self (HL.out.rel (hh.trans h2)) (HB.out.rel (hh.trans h2)) (fun w3 h3 => hT w3 ((HA.out.trans hh).trans (h2.trans h3)))))
      clear hT hq
      go_enter Tryd.func15, Tryd.ntmps15
      go_wp2_with (first
        | (go_at_call 16; (with_reducible refine (HC1.out _ HA.out).mono ?_); rintro e w1 ⟨rfl, r1⟩; have R1 := Lib.hid (HA.out.trans r1); obtain ⟨⟨d0, d1, d2, d3⟩, _⟩ := (HB.out.rel r1).four)
        | (go_at_call 24; (with_reducible refine (HC2.out _ R1.out).mono ?_); rintro e w2 ⟨rfl, r2⟩; have R2 := Lib.hid (R1.out.trans r2))
        | (go_at_call 25; (with_reducible refine (HK.out _ (HA.out.self.trans (r1.trans r2))).mono ?_); rintro e w3 ⟨rfl, r3⟩; have R3 := Lib.hid (R2.out.trans r3)))
      go_ret2
      exact ⟨rfl, HR.out.trans R3.out⟩
/-- What the program is asked, it is. -/
theorem valueOk : ValueOk := ⟨fun A c os w0 w hr ho => vright9_any A c os w0 w hr ho, veval_any, vcond_any⟩
end Go.Proofs.YtpehlldgnbajjaaDoor

namespace Go.Proofs.YtpehlldgnbajjaaDoor
open Go.RowKit Go.Lib
set_option linter.unusedVariables false
set_option linter.unusedSimpArgs false

theorem offs_news {w : World} {g off : Nat} {l : List Of} (h : OffsAt w (some ⟨g, off, none⟩) l) : ∀ j u, (cellsO l)[j]? = some u → w.cell? ((⟨g, off, none⟩ : Addr).add j) = some u := by
  intro j u hu
  have hj : j < (cellsO l).length := (List.getElem?_eq_some_iff.1 hu).1
  rw [cellsO_len] at hj
  have hi : j / 2 < l.length := by omega
  obtain ⟨g', off', e, _, h0, h1⟩ := h (j / 2) hi
  injection e with e; injection e with e1 e2; subst e1; subst e2
  obtain ⟨c0, c1⟩ := cellsO_at l (j / 2) hi
  rw [addr_at]
  rcases Nat.mod_two_eq_zero_or_one j with e | e
  · have ej : j = j / 2 * 2 := by omega
    rw [ej] at hu ⊢
    rw [c0] at hu
    rw [← hu]; exact h0
  · have ej : j = j / 2 * 2 + 1 := by omega
    rw [ej] at hu ⊢
    rw [c1] at hu
    rw [← hu, ← Nat.add_assoc]; exact h1
theorem cellsO_one (l : List Of) : ∀ u ∈ cellsO l, u.oneCell' = true := by
  intro u hu
  obtain ⟨o, _, h⟩ := List.mem_flatMap.1 hu
  exact cells2_one o u h
set_option maxRecDepth 100000 in
theorem app_run {w : World} {base : Nat} {v : Value} {os : List Of} (hown : OffOwn w base v os) {A : Option Addr} {c : Nat} {l : List Of} (hA : A = none → c = 0) (h : OffsAt w A l) (h1 : l.length ≤ 100) (h2 : os.length ≤ 100) (hb : base ≤ w.heap.size) (ty : TypeId) :
    ∃ v' w', (Builtin.append_ #[29, 29] ty #[v, .slice A l.length c]).run Tryd.prog w = .ok v' w' ∧ OffOwn w' base v' (os ++ l) ∧ w.grownBy w' v.ownBlock ∧ (v'.ownBlock = v.ownBlock ∨ v'.ownBlock = some w.heap.size) := by
  obtain ⟨i0, hi0, hz0, hz1, hz2⟩ := info_parts off_info
  cases A with
  | none =>
    obtain rfl := hA rfl
    have hl : l = [] := by
      cases l with
      | nil => rfl
      | cons o t => obtain ⟨_, _, e, _⟩ := h 0 (by simp); cases e
    subst hl
    refine ⟨v, w, run_append_owned_none (P := Tryd.prog) w base _ ty 37 i0 2 Tryd.underlying29 hi0 v os.length (cellsO os) hown, ?_, ⟨rfl, rfl, rfl, Nat.le_refl _, fun _ _ _ => rfl⟩, .inl rfl⟩
    rw [List.append_nil]; exact hown
  | some a =>
    have hnews : ∀ j u, (cellsO l)[j]? = some u → w.cell? (a.add j) = some u := by
      cases l with
      | nil => intro j u hu; simp [cellsO] at hu
      | cons o t =>
        obtain ⟨g, off, e, _⟩ := h 0 (by simp)
        injection e with e; subst e
        exact offs_news h
    obtain ⟨v', w', hr, g1, g2, _, g4⟩ := run_append_own_at (P := Tryd.prog) w base 29 ty 37 i0 (.agg #[.string ⟨#[]⟩, .int .i64 0]) 2 24 Tryd.underlying29 hi0 hz0 hz1 hz2 rfl (by decide) v os.length (cellsO os) hown a l.length c (cellsO l) (cellsO_len l) hnews (cellsO_one l) (by unfold maxLen; omega) (by omega) hb
    refine ⟨v', w', hr, ?_, g2, g4⟩
    unfold OffOwn
    rw [cellsO_append, List.length_append]; exact g1
/-- At the operation. -/
theorem wp_app {w : World} {o : Oper} {a : Act} {K : Act → World → Prop} {Q : Exit → Act → World → Prop} (s x : Operand) (ho : o.op = .call { callee := .builtin .append, args := #[s, x], argTypes := #[29, 29] })
    {base : Nat} {v : Value} {os : List Of} (hs : a.eval s = v) (hown : OffOwn w base v os) {A : Option Addr} {c : Nat} {l : List Of} (hx : a.eval x = .slice A l.length c) (hA : A = none → c = 0) (h : OffsAt w A l) (h1 : l.length ≤ 100) (h2 : os.length ≤ 100) (hb : base ≤ w.heap.size)
    (hk : ∀ v' w', OffOwn w' base v' (os ++ l) → w.grownBy w' v.ownBlock → (v'.ownBlock = v.ownBlock ∨ v'.ownBlock = some w.heap.size) → K (a.put o.dst v') w') : Oper.wp Tryd.prog o a w K Q := by
  obtain ⟨v', w', hr, g1, g2, g3⟩ := app_run hown hA h h1 h2 hb o.type
  unfold Oper.wp execOp
  simp only [ho, resolve, invoke, builtin, Sem.run_bind, Sem.run_pure, Result.andThen_ok, List.map_toArray, List.map_cons, List.map_nil, hs, hx, hr]
  exact hk v' w' g1 g2 g3
/-- The same, its length spelled otherwise. -/
theorem wp_appn {w : World} {o : Oper} {a : Act} {K : Act → World → Prop} {Q : Exit → Act → World → Prop} (s x : Operand) (ho : o.op = .call { callee := .builtin .append, args := #[s, x], argTypes := #[29, 29] })
    {base : Nat} {v : Value} {os : List Of} (hs : a.eval s = v) (hown : OffOwn w base v os) {A : Option Addr} {c n : Nat} {l : List Of} (hx : a.eval x = .slice A n c) (hn : l.length = n) (hA : A = none → c = 0) (h : OffsAt w A l) (h1 : l.length ≤ 100) (h2 : os.length ≤ 100) (hb : base ≤ w.heap.size)
    (hk : ∀ v' w', OffOwn w' base v' (os ++ l) → w.grownBy w' v.ownBlock → (v'.ownBlock = v.ownBlock ∨ v'.ownBlock = some w.heap.size) → K (a.put o.dst v') w') : Oper.wp Tryd.prog o a w K Q := by
  subst hn
  exact wp_app s x ho hs hown hx hA h h1 h2 hb hk
/-- What a slice of offers of one's own looks like. -/
theorem OffOwn.form {w : World} {base : Nat} {A : Option Addr} {c : Nat} {l : List Of} (h : OffOwn w base (.slice A l.length c) l) : (A = none ∧ c = 0 ∧ l = []) ∨ ∃ g, A = some ⟨g, 0, none⟩ ∧ base ≤ g ∧ g < w.heap.size := by
  rcases h.2 with ⟨h0, h1⟩ | ⟨g, cap, cur, hv, hb, hh, _⟩
  · injection h0 with e1 e2 e3
    exact .inl ⟨e1, e3, List.length_eq_zero_iff.1 h1⟩
  · injection hv with e1 e2 e3
    exact .inr ⟨g, e1, hb, Bk.lt (t := 37) hh⟩
theorem OffOwn.slice_of {w : World} {base : Nat} {v : Value} {l : List Of} (h : OffOwn w base v l) : ∃ A c, v = .slice A l.length c := by
  obtain ⟨A, c, e, _⟩ := own_slice h.row9
  exact ⟨A, c, e⟩
theorem OffOwn.grown_rel {w0 w w' : World} {base : Nat} {v : Value} {os : List Of} (h : Rel w0 w) (ho : OffOwn w base v os) (hb : w0.heap.size ≤ base) (hg : w.grownBy w' v.ownBlock) : Rel w0 w' :=
  h.grown hg (fun k hk => by have := (ho.row9.lt k hk).1; omega)
/-- One offer of one's own, written anew. -/
theorem cellsO_set (os : List Of) (j : Nat) (o : Of) : cellsO (os.set j o) = ((cellsO os).set (j * 2) (.string (B o.1))).set (j * 2 + 1) (.int .i64 o.2) := by
  induction os generalizing j with
  | nil => simp [cellsO]
  | cons e t ih =>
    cases j with
    | zero => rfl
    | succ j =>
      rw [List.set_cons_succ, cellsO_cons, cellsO_cons, ih]
      simp only [cells2, List.cons_append, List.nil_append]
      rw [show (j + 1) * 2 = j * 2 + 1 + 1 by omega]
      simp
theorem own_cell {w : World} {base g cap n : Nat} {xs : List Value} (h : w.ownsRow base 37 2 (.slice (some ⟨g, 0, none⟩) n cap) n xs) (i : Nat) (hi : i < n * 2) (u : Value) : (w.setCell ⟨g, i, none⟩ u).ownsRow base 37 2 (.slice (some ⟨g, 0, none⟩) n cap) n (xs.set i u) := by
  refine ⟨by rw [List.length_set]; exact h.1, ?_⟩
  rcases h.2 with ⟨h0, h1⟩ | ⟨g', cap', cur, hv, hb, hh, h3, h4, h5, h6⟩
  · cases h0
  · injection hv with e1 e2 e3
    injection e1 with e1; injection e1 with e1
    subst e1; subst e3
    refine .inr ⟨g, cap, cur.setIfInBounds i u, rfl, hb, Bk.set_ (t := 37) hh i u, h3, h4, by rw [Array.size_setIfInBounds]; exact h5, ?_⟩
    rw [Array.toList_setIfInBounds, List.take_set, h6]
theorem OffOwn.set2 {w : World} {base g cap : Nat} {os : List Of} (h : OffOwn w base (.slice (some ⟨g, 0, none⟩) os.length cap) os) (j : Nat) (hj : j < os.length) (o : Of) : OffOwn ((w.setCell ⟨g, j * 2, none⟩ (.string (B o.1))).setCell ⟨g, j * 2 + 1, none⟩ (.int .i64 o.2)) base (.slice (some ⟨g, 0, none⟩) os.length cap) (os.set j o) := by
  unfold OffOwn
  rw [cellsO_set, List.length_set]
  exact own_cell (own_cell h.row9 (j * 2) (by omega) _) (j * 2 + 1) (by omega) _
theorem OffOwn.set1 {w : World} {base g cap : Nat} {os : List Of} (h : OffOwn w base (.slice (some ⟨g, 0, none⟩) os.length cap) os) (j : Nat) (hj : j < os.length) (p : Int) : OffOwn (w.setCell ⟨g, j * 2 + 1, none⟩ (.int .i64 p)) base (.slice (some ⟨g, 0, none⟩) os.length cap) (os.set j (os[j].1, p)) := by
  unfold OffOwn
  rw [cellsO_set, List.length_set]
  have e : (cellsO os).set (j * 2) (.string (B os[j].1)) = cellsO os := by
    have h0 := (cellsO_at os j hj).1
    obtain ⟨hl, e0⟩ := List.getElem?_eq_some_iff.1 h0
    rw [← e0, List.set_getElem_self]
  rw [e]
  exact own_cell h.row9 (j * 2 + 1) (by omega) _
end Go.Proofs.YtpehlldgnbajjaaDoor

namespace Go.Proofs.YtpehlldgnbajjaaDoor
open Go
set_option linter.unusedVariables false
set_option linter.unusedSimpArgs false
section
variable {P : Program} {ops : Array Oper} {Q : Exit → Act → World → Prop} {md : Region.Mode} {S : World → Prop}

/-- Two operations may come up: neither waits for i, so S is shown behind each. -/
theorem till_two {i j k : Nat} {o o' : Oper} {fuel : Nat} {listed : Array Bool} {a : Act} {w : World} (hr : Region.ready md ops listed = [j, k]) (ho : ops[j]? = some o) (ho' : ops[k]? = some o')
    (h : ∀ K' : Act → World → Prop, Shut (∀ a w, S w → wpTill P md ops Q S i fuel (listed.setIfInBounds j true) a w → K' a w) → if Region.wanted o (yielded ops a.tmps) = true then Oper.wp P o a w K' Q else K' (a.put o.dst undef) w)
    (h' : ∀ K' : Act → World → Prop, Shut (∀ a w, S w → wpTill P md ops Q S i fuel (listed.setIfInBounds k true) a w → K' a w) → if Region.wanted o' (yielded ops a.tmps) = true then Oper.wp P o' a w K' Q else K' (a.put o'.dst undef) w) : wpTill P md ops Q S i (fuel + 1) listed a w :=
  ⟨(fun h0 => by rw [hr] at h0; cases h0), fun q hq => by
    rw [hr] at hq
    rcases List.mem_cons.1 hq with rfl | hq
    · exact wpOp_step ho (fun K' hK => h K' (fun a w hS hW => hK a w ⟨fun _ => hS, hW⟩))
    · rw [List.mem_singleton] at hq; subst hq
      exact wpOp_step ho' (fun K' hK => h' K' (fun a w hS hW => hK a w ⟨fun _ => hS, hW⟩))⟩
/-- What asks nothing of the world, and waits for i, is taken first. -/
theorem till_quiet {q i : Nat} {oi : Oper} {v : Value} (hi : ops[q]? = some oi) (hsel : ∀ (j : Nat) (o : Oper) cs b, ops[j]? = some o → o.op ≠ .select cs b)
    (hQ : ∀ c a w, Q (.panic c) (a.put oi.dst v) w → Q (.panic c) a w) (hwq : waitsB md ops q i = true) :
    ∀ (fuel : Nat) (listed : Array Bool) (a : Act) (w : World),
      (∀ j oj, ops[j]? = some oj → j ≠ q → listed.getD j true = false → (∀ e ∈ oj.after, Region.binds md e = true → e.on ≠ q) → oi.apart ops oj = true) →
      q ∈ Region.ready md ops listed → YieldsIf P ops (fun _ => True) oi v a →
      wpTill P md ops Q S i fuel (listed.setIfInBounds q true) (a.put oi.dst v) w → wpTill P md ops Q S i (fuel + 1) listed a w := by
  intro fuel
  induction fuel with
  | zero =>
    intro listed a w hap hir hy h
    refine ⟨(fun e => by rw [e] at hir; cases hir), fun j hj => ?_⟩
    by_cases hji : j = q
    · subst hji; exact hy.wpOp hi trivial ⟨(fun e => by rw [hwq] at e; cases e), h⟩
    · have := ready_set hj hji
      rw [h.1] at this; cases this
  | succ f ih =>
    intro listed a w hap hir hy h
    refine ⟨(fun e => by rw [e] at hir; cases hir), fun j hj => ?_⟩
    by_cases hji : j = q
    · subst hji; exact hy.wpOp hi trivial ⟨(fun e => by rw [hwq] at e; cases e), h⟩
    · have hw := ready_waits hir hj
      obtain ⟨_, hjl, oj, hoj, hjw⟩ := ready_iff.1 hj
      have hnot : ∀ e ∈ oj.after, Region.binds md e = true → e.on ≠ q := by
        intro e he hb hc
        unfold waitsB at hw
        rw [hoj] at hw
        simp only [Option.map_some, Option.getD_some] at hw
        rw [Array.any_eq_false'] at hw
        exact hw e he (by simp [hb, hc])
      have h1 := wpOp_putIf hoj (hap j oj hoj hji hjl hnot) (fun cs b => hsel q oi cs b hi) (fun cs b => hsel j oj cs b hoj) hQ hy (h.2 j (ready_set hj hji))
      refine wpOp_mono (fun a' w' h' => ?_) h1
      obtain ⟨hy', hS', ht⟩ := h'
      refine ⟨hS', ih (listed.setIfInBounds j true) a' w' (fun p oq hq hqi hql hqe => hap p oq hq hqi ?_ hqe) (ready_set hir (Ne.symm hji)) hy' ?_⟩
      · by_cases e : p = j
        · subst e; exact hjl
        · rw [set_get e] at hql; exact hql
      · rw [Array.setIfInBounds_comm _ _ (Ne.symm hji)] at ht
        exact ht
theorem till_move {q i : Nat} {oi : Oper} {v : Value} (d : Option Tmp) {fuel : Nat} {listed : Array Bool} {a : Act} {w : World} (hi : ops[q]? = some oi) (hd : oi.dst = d) (hwq : waitsB md ops q i = true)
    (hs : Region.noSelect ops = true) (hf : Region.free md ops listed q = true) (hr : (Region.ready md ops listed).contains q = true)
    (hQ : ∀ c a w, Q (.panic c) (a.put d v) w → Q (.panic c) a w) (hy : Yields P ops oi v a)
    (h : wpTill P md ops Q S i fuel (listed.setIfInBounds q true) (a.put d v) w) : wpTill P md ops Q S i (fuel + 1) listed a w := by
  subst hd
  exact till_quiet hi (Region.noSelect_spec hs) hQ hwq fuel listed a w (Region.free_spec hi hf) (by simpa using hr) hy.yieldsIf h
/-- All that is left waits for i: it is walked as any region. -/
theorem till_any {i : Nat} : ∀ (fuel : Nat) (listed : Array Bool) (a : Act) (w : World), (∀ j ∈ List.range ops.size, listed.getD j true = false → waitsB md ops j i = true) → wpAny P md ops Q fuel listed a w → wpTill P md ops Q S i fuel listed a w
  | 0, _, _, _, _, h => h
  | fuel + 1, listed, a, w, hw, h => ⟨h.1, fun j hj => wpOp_mono (fun a' w' h' => by
      obtain ⟨h1, h2, _⟩ := ready_iff.1 hj
      refine ⟨fun e => ?_, till_any fuel _ a' w' (fun q hq hl => hw q hq ?_) h'⟩
      · rw [hw j (List.mem_range.2 h1) h2] at e
        cases e
      · by_cases e : q = j
        · subst e; exact h2
        · rw [set_get e] at hl; exact hl) (h.2 j hj)⟩
theorem till_rest {i fuel : Nat} {listed : Array Bool} {a : Act} {w : World} (hw : ((List.range ops.size).all fun j => listed.getD j true || waitsB md ops j i) = true) (h : wpAny P md ops Q fuel listed a w) : wpTill P md ops Q S i fuel listed a w :=
  till_any fuel listed a w (fun j hj hl => by
    have := List.all_eq_true.1 hw j hj
    rw [hl, Bool.false_or] at this
    exact this) h
theorem any_one {j : Nat} {o : Oper} {fuel : Nat} {listed : Array Bool} {a : Act} {w : World} (hr : Region.ready md ops listed = [j]) (ho : ops[j]? = some o)
    (h : ∀ K' : Act → World → Prop, Shut (∀ a w, wpAny P md ops Q fuel (listed.setIfInBounds j true) a w → K' a w) → if Region.wanted o (yielded ops a.tmps) = true then Oper.wp P o a w K' Q else K' (a.put o.dst undef) w) : wpAny P md ops Q (fuel + 1) listed a w :=
  ⟨(fun h0 => by rw [hr] at h0; cases h0), fun q hq => by rw [hr, List.mem_singleton] at hq; subst hq; exact wpOp_step ho (fun K' hK => h K' (fun a w hW => hK a w hW))⟩
theorem any_two {j k : Nat} {o o' : Oper} {fuel : Nat} {listed : Array Bool} {a : Act} {w : World} (hr : Region.ready md ops listed = [j, k]) (ho : ops[j]? = some o) (ho' : ops[k]? = some o')
    (h : ∀ K' : Act → World → Prop, Shut (∀ a w, wpAny P md ops Q fuel (listed.setIfInBounds j true) a w → K' a w) → if Region.wanted o (yielded ops a.tmps) = true then Oper.wp P o a w K' Q else K' (a.put o.dst undef) w)
    (h' : ∀ K' : Act → World → Prop, Shut (∀ a w, wpAny P md ops Q fuel (listed.setIfInBounds k true) a w → K' a w) → if Region.wanted o' (yielded ops a.tmps) = true then Oper.wp P o' a w K' Q else K' (a.put o'.dst undef) w) : wpAny P md ops Q (fuel + 1) listed a w :=
  ⟨(fun h0 => by rw [hr] at h0; cases h0), fun q hq => by
    rw [hr] at hq
    rcases List.mem_cons.1 hq with rfl | hq
    · exact wpOp_step ho (fun K' hK => h K' (fun a w hW => hK a w hW))
    · rw [List.mem_singleton] at hq; subst hq
      exact wpOp_step ho' (fun K' hK => h' K' (fun a w hW => hK a w hW))⟩
theorem any_done {listed : Array Bool} {a : Act} {w : World} (hr : Region.ready md ops listed = []) (h : Q .normal a w) : ∀ fuel, wpAny P md ops Q fuel listed a w
  | 0 => ⟨hr, h⟩
  | _ + 1 => ⟨fun _ => h, by rw [hr]; simp⟩
end
end Go.Proofs.YtpehlldgnbajjaaDoor
