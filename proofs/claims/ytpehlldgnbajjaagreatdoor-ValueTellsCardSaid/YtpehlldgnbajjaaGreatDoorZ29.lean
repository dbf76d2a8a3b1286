/- What the landed Print and Right tell: all that the laws ask of the program; What the landed package value tells. -/
import Derived.Test.YtpehlldgnbajjaaGreatDoorZ28
import Derived.Test.YtpehlldgnbajjaaGreatDoorZ14
import Derived.Test.YtpehlldgnbajjaaGreatDoorZ22
import Derived.Test.YtpehlldgnbajjaaGreatDoorZ25
import Derived.Test.YtpehlldgnbajjaaGreatDoorZ15
namespace Go.Proofs.YtpehlldgnbajjaaGreatDoor
open Go.RowKit Go.Lib
set_option linter.unusedVariables false
set_option linter.unusedSimpArgs false

theorem pr_new (w : World) (o : Obj) : Pr w.heap.size (w.heap.size + 1) [] 0 ((w.alloc o).alloc (.cells #[.pointer none, .slice none 0 0, .int .i64 0] 85)) := by
  have hb := Bk.new (w.alloc o) 85 #[.pointer none, .slice none 0 0, .int .i64 0]
  rw [World.size_alloc] at hb
  exact .inl ⟨by omega, _, hb, World.ownsRowF_of (World.ownsRow_nil _ _ _ _), by simp [Value.ownBlock]⟩
theorem right_of {x : Ex} (hc : isCond x.k = false) : rightX x = true ↔ fine (32 - 0) x = true ∧ ([] : List UInt8).length + (text x).length ≤ 2000 := by
  simp only [rightX, hc, Bool.and_eq_true, decide_eq_true_eq, List.length_nil, Nat.sub_zero, Nat.zero_add, Bool.not_false, and_true]
  constructor
  · rintro ⟨⟨a, _⟩, b⟩; exact ⟨a, b⟩
  · rintro ⟨a, b⟩; exact ⟨⟨a, by have := text_more x 32 a; omega⟩, b⟩
set_option maxRecDepth 100000 in
set_option maxHeartbeats 4000000 in
theorem tprint_any : PrintOk := fun x S e w0 w hr h hz => by
  have HR := Lib.hid hr
  obtain ⟨k, n, nm, A, m, c⟩ := e
  have hke : x.k = k := h.kind
  have HB := Lib.hid ((Bk.new w 31 #[.int .i64 k, .int .i64 n, .string (B nm), .slice A m c]).alloc (.cells #[.pointer none, .slice none 0 0, .int .i64 0] 85))
  have HA := Lib.hid ((hr.self.alloc (.cells #[.int .i64 k, .int .i64 n, .string (B nm), .slice A m c] 31)).alloc (.cells #[.pointer none, .slice none 0 0, .int .i64 0] 85))
  have HP := Lib.hid (pr_new w (.cells #[.int .i64 k, .int .i64 n, .string (B nm), .slice A m c] 31))
  obtain ⟨⟨c0, c1, c2, c3⟩, _⟩ := HB.out.four
  obtain ⟨bc, hbc⟩ : ∃ b, isCond k = b := ⟨_, rfl⟩
  have HBc := Lib.hid hbc
  cases bc with
  | true =>
    have HX := Lib.hid (show prT x = [] ∧ prE x = 1 by
      have : rightX x = false := by unfold rightX; rw [hke, hbc]; simp
      unfold prT prE; rw [this]; exact ⟨rfl, rfl⟩)
    clear h hbc
    go_enter Tryz.func48, Tryz.ntmps48
    go_wp2_with (go_at_call 64; (with_reducible refine (tcond_as k n (B nm) A m c true HBc _ _ HA.out.self).mono ?_); rintro e w2 ⟨rfl, h2⟩; obtain ⟨⟨d0, d1, d2, d3⟩, _⟩ := (HB.out.rel h2).four)
    go_ret2
    exact ⟨by rw [HX.out.1, HX.out.2]; rfl, (HR.out.trans HA.out).trans h2⟩
  | false =>
    obtain ⟨t, ht⟩ : ∃ t, rightX x = t := ⟨_, rfl⟩
    have hti : t = true ↔ fine (32 - 0) x = true ∧ ([] : List UInt8).length + (text x).length ≤ 2000 := by rw [← ht]; exact right_of (by rw [hke]; exact hbc)
    have HC := Lib.hid (fun (w2 : World) (h2 : Rel w w2) (hp : Pr w.heap.size (w.heap.size + 1) [] 0 w2) => pexpr_any x S (k, n, nm, A, m, c) (w.heap.size + 1) [] 0 t w w2 h2 h hp (by omega) (by simp) hz (Lib.hid hti))
    have HX := Lib.hid (show prT x = (if t then text x else []) ∧ prE x = (if t then 0 else 1) by unfold prT prE; rw [ht]; exact ⟨rfl, rfl⟩)
    have HNe := Lib.hid (show t = true → [] ++ text x ≠ [] from fun e => by
      have h1 := text_more x 32 (hti.1 e).1
      have h2 := size_pos x
      intro h
      rw [List.nil_append] at h
      rw [h, List.length_nil] at h1
      omega)
    clear h hbc hti ht
    cases t with
    | false =>
      go_enter Tryz.func48, Tryz.ntmps48
      go_wp2_with (first
        | (go_at_call 64; (with_reducible refine (tcond_as k n (B nm) A m c false HBc _ _ HA.out.self).mono ?_); rintro e w2 ⟨rfl, h2⟩; obtain ⟨⟨d0, d1, d2, d3⟩, _⟩ := (HB.out.rel h2).four)
        | (go_at_call 65; (with_reducible refine (HC.out _ (HA.out.trans h2) (HP.out.rel h2)).mono ?_); rintro e w3 ⟨rfl, p3, r3, k3⟩))
      go_ret2
      exact ⟨by rw [HX.out.1, HX.out.2]; rfl, HR.out.trans r3⟩
    | true =>
      go_enter Tryz.func48, Tryz.ntmps48
      go_wp2_with (first
        | (go_at_call 64; (with_reducible refine (tcond_as k n (B nm) A m c false HBc _ _ HA.out.self).mono ?_); rintro e w2 ⟨rfl, h2⟩; obtain ⟨⟨d0, d1, d2, d3⟩, _⟩ := (HB.out.rel h2).four)
        | (go_at_call 65; (with_reducible refine (HC.out _ (HA.out.trans h2) (HP.out.rel h2)).mono ?_); rintro e w3 ⟨rfl, p3, r3, k3⟩)
        | (go_at_call 66; (with_reducible refine (string_any (w.heap.size + 1) ([] ++ text x) 0 w _ r3 (by first | exact p3 rfl | exact p3 trivial) (by first | exact HNe.out rfl | exact HNe.out trivial)).mono ?_); rintro e w4 ⟨rfl, r4⟩))
      go_ret2
      exact ⟨by rw [HX.out.1, HX.out.2]; rfl, HR.out.trans r4⟩
set_option maxRecDepth 100000 in
set_option maxHeartbeats 2000000 in
theorem tright_any : RightOk := fun x S e w0 w hr h hz => by
  have HR := Lib.hid hr
  obtain ⟨k, n, nm, A, m, c⟩ := e
  have HA := Lib.hid (hr.self.alloc (.cells #[.int .i64 k, .int .i64 n, .string (B nm), .slice A m c] 31))
  have HP := Lib.hid (fun (w' : World) (h' : Rel w w') => tprint_any x S (k, n, nm, A, m, c) w' w' (hr.trans h').self (h.rel h') hz)
  obtain ⟨T, hT⟩ : ∃ T, B (prT x) = T := ⟨_, rfl⟩
  rw [hT] at HP
  clear hT
  cases hx : rightX x
  · have he : prE x = 1 := by unfold prE; rw [hx]; rfl
    rw [he] at HP
    clear h he hx
    go_enter Tryz.func24, Tryz.ntmps24
    go_wp2_with (go_at_call 48; (with_reducible refine (HP.out _ HA.out).mono ?_); rintro e w2 ⟨rfl, h2⟩)
    go_ret
    exact ⟨rfl, (HR.out.trans HA.out).trans h2⟩
  · have he : prE x = 0 := by unfold prE; rw [hx]; rfl
    rw [he] at HP
    clear h he hx
    go_enter Tryz.func24, Tryz.ntmps24
    go_wp2_with (go_at_call 48; (with_reducible refine (HP.out _ HA.out).mono ?_); rintro e w2 ⟨rfl, h2⟩)
    go_ret
    exact ⟨rfl, (HR.out.trans HA.out).trans h2⟩
end Go.Proofs.YtpehlldgnbajjaaGreatDoor

namespace Go.Proofs.YtpehlldgnbajjaaGreatDoor
open Go.RowKit Go.Lib
set_option linter.unusedVariables false
set_option linter.unusedSimpArgs false

theorem plw_at (S : Nat → Prop) (w : World) : ExAt S w (1, 0, [], none, 0, 0) exLw := ExAt.leaf S w 1 0 [] none 0 ⟨by decide, by decide⟩ ⟨by decide, by decide⟩ (Nat.zero_le _)
theorem ri_ok (o : Option Int) : RV (.ok o) = .tuple #[.int .i64 (o.getD 0), .bool o.isSome, .int .i64 0] := by cases o <;> rfl
set_option maxRecDepth 100000 in
set_option maxHeartbeats 4000000 in
theorem vmay_any (x : Ex) (S : Nat → Prop) (e : El) (w0 w : World) (hr : Rel w0 w) (h : ExAt S w e x) (hz : size x ≤ 90000) :
    Calls Tryz.prog 29 #[EV e] w fun z w' => z = .returned (.bool (rightX (ifX x))) ∧ Rel w0 w' := by
  have HR := Lib.hid hr
  obtain ⟨k, n, nm, A', m, c'⟩ := e
  have HB := Lib.hid ((Bk.new w 31 #[.int .i64 k, .int .i64 n, .string (B nm), .slice A' m c']).alloc (.cells #[.int .i64 1, .int .i64 0, .string ⟨#[]⟩, .slice none 0 0] 31))
  have HL := Lib.hid (Bk.snd w #[.int .i64 k, .int .i64 n, .string (B nm), .slice A' m c'] #[.int .i64 1, .int .i64 0, .string ⟨#[]⟩, .slice none 0 0] 31 31)
  have HA := Lib.hid ((hr.self.alloc (.cells #[.int .i64 k, .int .i64 n, .string (B nm), .slice A' m c'] 31)).alloc (.cells #[.int .i64 1, .int .i64 0, .string ⟨#[]⟩, .slice none 0 0] 31))
  obtain ⟨W, hW⟩ : ∃ W, (w.alloc (.cells #[.int .i64 k, .int .i64 n, .string (B nm), .slice A' m c'] 31)).alloc (.cells #[.int .i64 1, .int .i64 0, .string ⟨#[]⟩, .slice none 0 0] 31) = W := ⟨_, rfl⟩
  rw [hW] at HA HB HL
  have hc2 : ∀ (w1 : World) (hh : Rel w w1), Calls Tryz.prog 24 #[.agg #[.int .i64 10, .int .i64 0, .string ⟨#[]⟩, .slice (some ⟨w1.heap.size, 0, none⟩) 3 3]] (w1.alloc (.cells #[.int .i64 k, .int .i64 n, .string (B nm), .slice A' m c', .int .i64 1, .int .i64 0, .string ⟨#[]⟩, .slice none 0 0, .int .i64 1, .int .i64 0, .string ⟨#[]⟩, .slice none 0 0] 31)) fun z w' => z = .returned (.bool (rightX (ifX x))) ∧ Rel w1 w' := fun w1 hh => by
    have r1 := (hr.trans hh).self
    have ra := r1.alloc (.cells #[.int .i64 k, .int .i64 n, .string (B nm), .slice A' m c', .int .i64 1, .int .i64 0, .string ⟨#[]⟩, .slice none 0 0, .int .i64 1, .int .i64 0, .string ⟨#[]⟩, .slice none 0 0] 31)
    have hb := Bk.new w1 31 #[.int .i64 k, .int .i64 n, .string (B nm), .slice A' m c', .int .i64 1, .int .i64 0, .string ⟨#[]⟩, .slice none 0 0, .int .i64 1, .int .i64 0, .string ⟨#[]⟩, .slice none 0 0]
    have ha := ExAt.three (S := fun _ => True) (a := (k, n, nm, A', m, c')) (b := (1, 0, [], none, 0, 0)) (d := (1, 0, [], none, 0, 0)) (k := 10) (n := 0) (nm := []) (c := 3) (ok64 (by decide) (by decide)) (ok64 (by decide) (by decide)) (Nat.zero_le _) hb trivial ((h.rel (hh.trans ra)).weak (fun _ _ => trivial)) (plw_at _ _) (plw_at _ _)
    exact tright_any (ifX x) _ (10, 0, [], some ⟨w1.heap.size, 0, none⟩, 3, 3) w1 _ ra ha (by rw [ifX_size]; omega)
  obtain ⟨b2, h2⟩ : ∃ b, rightX (ifX x) = b := ⟨_, rfl⟩
  rw [h2] at hc2 ⊢
  have HC2 := Lib.hid hc2
  obtain ⟨⟨b0, b1, b2', b3⟩, _⟩ := HB.out.four
  obtain ⟨⟨l0, l1, l2, l3⟩, _⟩ := HL.out.four
  have HW := Lib.hid hW
  clear h hc2 hr h2 hW
  go_enter Tryz.func29, Tryz.ntmps29
  go_upto_region 2 with (fail)
  rw [HW.out]
  go_wp2_with (go_at_call 24; (with_reducible refine (HC2.out _ HA.out).mono ?_); rintro e w2 ⟨rfl, r2⟩)
  go_ret
  exact ⟨rfl, HR.out.trans (HA.out.trans r2)⟩
set_option maxRecDepth 100000 in
set_option maxHeartbeats 4000000 in
theorem veval_any : EvalOk := fun x S e A c os w0 w hr h hz ho => by
  have HR := Lib.hid hr
  have HE := Lib.hid h
  have HO := Lib.hid ho
  obtain ⟨k, n, nm, A', m, c'⟩ := e
  have HB := Lib.hid ((Bk.new w 31 #[.int .i64 k, .int .i64 n, .string (B nm), .slice A' m c']).alloc (.cells #[.slice A os.length c] 24))
  have HL := Lib.hid (Bk.snd w #[.int .i64 k, .int .i64 n, .string (B nm), .slice A' m c'] #[.slice A os.length c] 31 24)
  have HA := Lib.hid ((hr.self.alloc (.cells #[.int .i64 k, .int .i64 n, .string (B nm), .slice A' m c'] 31)).alloc (.cells #[.slice A os.length c] 24))
  obtain ⟨W, hW⟩ : ∃ W, (w.alloc (.cells #[.int .i64 k, .int .i64 n, .string (B nm), .slice A' m c'] 31)).alloc (.cells #[.slice A os.length c] 24) = W := ⟨_, rfl⟩
  rw [hW] at HA HB HL
  have hc1 := fun (w' : World) (hh : Rel w w') => vright9_any A c os w' w' (hr.self.trans hh).self (ho.rel hh)
  have hc2 := fun (w' : World) (hh : Rel w w') => tright_any x S (k, n, nm, A', m, c') w' w' (hr.self.trans hh).self (h.rel hh) (by omega)
  obtain ⟨b1, h1⟩ : ∃ b, offsOk os = b := ⟨_, rfl⟩
  obtain ⟨b2, h2⟩ : ∃ b, rightX x = b := ⟨_, rfl⟩
  rw [h1] at hc1
  rw [h2] at hc2
  have HC1 := Lib.hid hc1
  have HC2 := Lib.hid hc2
  have H1 := Lib.hid h1
  have H2 := Lib.hid h2
  obtain ⟨⟨x0, x1, x2, x3⟩, _⟩ := HB.out.four
  have l0 := HL.out.cell 0
  simp only [List.getElem?_toArray, List.getElem?_cons_zero] at l0
  clear h ho hc1 hc2 h1 h2 hr
  have key : b1 = false ∨ b2 = false ∨ (b1 = true ∧ b2 = true) := by cases b1 <;> cases b2 <;> simp
  have bad : b1 = false ∨ b2 = false → Hid (evalS os x = .error 1) := fun hb => Lib.hid (by
    unfold evalS; rw [H1.out, H2.out]
    rcases hb with rfl | rfl
    · rfl
    · rw [Bool.and_false]; rfl)
  rcases key with rfl | rfl | ⟨rfl, rfl⟩
  · have HF := bad (.inl rfl)
    clear bad
    go_enter Tryz.func11, Tryz.ntmps11
    rw [HF.out]
    go_wp2_with (go_at_call 6; (with_reducible refine (HC1.out _ HA.out).mono ?_); rintro e w1 ⟨rfl, r1⟩; have R1 := Lib.hid (HA.out.trans r1); obtain ⟨⟨d0, d1, d2, d3⟩, _⟩ := (HB.out.rel r1).four)
    go_ret3
    exact ⟨rfl, HR.out.trans R1.out⟩
  · have HF := bad (.inr rfl)
    clear bad
    go_enter Tryz.func11, Tryz.ntmps11
    rw [HF.out]
    cases b1
    · go_wp2_with (go_at_call 6; (with_reducible refine (HC1.out _ HA.out).mono ?_); rintro e w1 ⟨rfl, r1⟩; have R1 := Lib.hid (HA.out.trans r1); obtain ⟨⟨d0, d1, d2, d3⟩, _⟩ := (HB.out.rel r1).four)
      go_ret3
      exact ⟨rfl, HR.out.trans R1.out⟩
    · go_wp2_with (first
        | (go_at_call 6; (with_reducible refine (HC1.out _ HA.out).mono ?_); rintro e w1 ⟨rfl, r1⟩; have R1 := Lib.hid (HA.out.trans r1); obtain ⟨⟨d0, d1, d2, d3⟩, _⟩ := (HB.out.rel r1).four)
        | (go_at_call 24; (with_reducible refine (HC2.out _ R1.out).mono ?_); rintro e w2 ⟨rfl, r2⟩; have R2 := Lib.hid (R1.out.trans r2)))
      go_ret3
      exact ⟨rfl, HR.out.trans R2.out⟩
  · clear bad
    have HF : evalS os x = toldN os 32 x := by unfold evalS; rw [H1.out, H2.out]; rfl
    rw [HF]
    clear HF
    have hT := fun (w' : World) (hh : Rel w w') => (ptold_all 32).1 x S (k, n, nm, A', m, c') A c os w' w' (right_fine H2.out).1 (right_fine H2.out).2 (HR.out.trans hh).self (HE.out.rel hh) H1.out (HO.out.rel hh)
    cases hq : toldN os 32 x with
    | error er =>
      have he := told_err _ _ _ _ hq
      subst he
      have hT := fun (w' : World) (hh : Rel w w') => tp_no (hT w' hh) hq
      have HK := Lib.hid (fun (w' : World) (hh : Rel W w') => vreckon_no (w.heap.size + 1) w.heap.size w' w' hh.self (fun w2 h2 => veval1_no k n nm A' m c' (.slice A os.length c) (w.heap.size + 1) w.heap.size w2 w2 h2.self (HL.out.rel (hh.trans h2)) (HB.out.rel (hh.trans h2)) (fun w3 h3 => hT w3 ((HA.out.trans hh).trans (h2.trans h3)))))
      clear hT hq
      go_enter Tryz.func11, Tryz.ntmps11
      go_upto_region 4 with (first
        | (go_at_call 6; (with_reducible refine (HC1.out _ HA.out).mono ?_); rintro e w1 ⟨rfl, r1⟩; have R1 := Lib.hid (HA.out.trans r1); obtain ⟨⟨d0, d1, d2, d3⟩, _⟩ := (HB.out.rel r1).four)
        | (go_at_call 24; (with_reducible refine (HC2.out _ R1.out).mono ?_); rintro e w2 ⟨rfl, r2⟩; have R2 := Lib.hid (R1.out.trans r2))
        | (go_at_call 25; (with_reducible refine (HK.out _ (HA.out.self.trans (r1.trans r2))).mono ?_); rintro e w3 ⟨rfl, r3⟩; have R3 := Lib.hid (R2.out.trans r3)))
      have HU := Lib.hid (Bk.new w3 46 #[.int .i64 0, .bool false])
      have RU := Lib.hid (R3.out.alloc (.cells #[.int .i64 0, .bool false] 46))
      obtain ⟨U, hU⟩ : ∃ U, w3.alloc (.cells #[.int .i64 0, .bool false] 46) = U := ⟨_, rfl⟩
      rw [hU] at HU RU ⊢
      clear hU
      obtain ⟨⟨p0, p1⟩, _⟩ := HU.out.two
      go_quiet (fail)
      go_wp2_with (fail)
      go_ret3
      exact ⟨rfl, (HR.out.trans RU.out).drewN _⟩
    | ok o =>
      rw [ri_ok]
      obtain ⟨V, hV⟩ : ∃ V, o.getD 0 = V := ⟨_, rfl⟩
      obtain ⟨b, hb⟩ : ∃ b, o.isSome = b := ⟨_, rfl⟩
      rw [hV, hb]
      have hT := fun (w' : World) (hh : Rel w w') => tp_ok (hT w' hh) hq hV hb
      have HK := Lib.hid (fun (w' : World) (hh : Rel W w') => vreckon_ok (w.heap.size + 1) w.heap.size V b w' w' hh.self (fun w2 h2 => veval1_ok k n nm A' m c' (.slice A os.length c) (w.heap.size + 1) w.heap.size V b w2 w2 h2.self (HL.out.rel (hh.trans h2)) (HB.out.rel (hh.trans h2)) (fun w3 h3 => hT w3 ((HA.out.trans hh).trans (h2.trans h3)))))
      clear hT hq hV hb
      go_enter Tryz.func11, Tryz.ntmps11
      go_upto_region 4 with (first
        | (go_at_call 6; (with_reducible refine (HC1.out _ HA.out).mono ?_); rintro e w1 ⟨rfl, r1⟩; have R1 := Lib.hid (HA.out.trans r1); obtain ⟨⟨d0, d1, d2, d3⟩, _⟩ := (HB.out.rel r1).four)
        | (go_at_call 24; (with_reducible refine (HC2.out _ R1.out).mono ?_); rintro e w2 ⟨rfl, r2⟩; have R2 := Lib.hid (R1.out.trans r2))
        | (go_at_call 25; (with_reducible refine (HK.out _ (HA.out.self.trans (r1.trans r2))).mono ?_); rintro e w3 ⟨rfl, r3⟩; have R3 := Lib.hid (R2.out.trans r3)))
      have HU := Lib.hid (Bk.new w3 46 #[.int .i64 V, .bool b])
      have RU := Lib.hid (R3.out.alloc (.cells #[.int .i64 V, .bool b] 46))
      obtain ⟨U, hU⟩ : ∃ U, w3.alloc (.cells #[.int .i64 V, .bool b] 46) = U := ⟨_, rfl⟩
      rw [hU] at HU RU ⊢
      clear hU
      obtain ⟨⟨p0, p1⟩, _⟩ := HU.out.two
      go_quiet (fail)
      go_wp2_with (fail)
      go_ret3
      exact ⟨rfl, (HR.out.trans RU.out).drewN _⟩
set_option maxRecDepth 100000 in
set_option maxHeartbeats 4000000 in
theorem vcond_any : CondOk := fun x S e A c os w0 w hr h hz ho => by
  have HR := Lib.hid hr
  have HE := Lib.hid h
  have HO := Lib.hid ho
  obtain ⟨k, n, nm, A', m, c'⟩ := e
  have HB := Lib.hid ((Bk.new w 31 #[.int .i64 k, .int .i64 n, .string (B nm), .slice A' m c']).alloc (.cells #[.slice A os.length c] 24))
  have HL := Lib.hid (Bk.snd w #[.int .i64 k, .int .i64 n, .string (B nm), .slice A' m c'] #[.slice A os.length c] 31 24)
  have HA := Lib.hid ((hr.self.alloc (.cells #[.int .i64 k, .int .i64 n, .string (B nm), .slice A' m c'] 31)).alloc (.cells #[.slice A os.length c] 24))
  obtain ⟨W, hW⟩ : ∃ W, (w.alloc (.cells #[.int .i64 k, .int .i64 n, .string (B nm), .slice A' m c'] 31)).alloc (.cells #[.slice A os.length c] 24) = W := ⟨_, rfl⟩
  rw [hW] at HA HB HL
  have hc1 := fun (w' : World) (hh : Rel w w') => vright9_any A c os w' w' (hr.self.trans hh).self (ho.rel hh)
  have hc2 := fun (w' : World) (hh : Rel w w') => vmay_any x S (k, n, nm, A', m, c') w' w' (hr.self.trans hh).self (h.rel hh) hz
  obtain ⟨b1, h1⟩ : ∃ b, offsOk os = b := ⟨_, rfl⟩
  obtain ⟨b2, h2⟩ : ∃ b, rightX (ifX x) = b := ⟨_, rfl⟩
  rw [h1] at hc1
  rw [h2] at hc2
  have HC1 := Lib.hid hc1
  have HC2 := Lib.hid hc2
  have H1 := Lib.hid h1
  have H2 := Lib.hid h2
  obtain ⟨⟨x0, x1, x2, x3⟩, _⟩ := HB.out.four
  have l0 := HL.out.cell 0
  simp only [List.getElem?_toArray, List.getElem?_cons_zero] at l0
  clear h ho hc1 hc2 h1 h2 hr
  have key : b1 = false ∨ b2 = false ∨ (b1 = true ∧ b2 = true) := by cases b1 <;> cases b2 <;> simp
  have bad : b1 = false ∨ b2 = false → Hid (condS os x = .error 1) := fun hb => Lib.hid (by
    unfold condS; rw [H1.out, H2.out]
    rcases hb with rfl | rfl
    · rfl
    · rw [Bool.and_false]; rfl)
  rcases key with rfl | rfl | ⟨rfl, rfl⟩
  · have HF := bad (.inl rfl)
    clear bad
    go_enter Tryz.func13, Tryz.ntmps13
    rw [HF.out]
    go_wp2_with (go_at_call 6; (with_reducible refine (HC1.out _ HA.out).mono ?_); rintro e w1 ⟨rfl, r1⟩; have R1 := Lib.hid (HA.out.trans r1); obtain ⟨⟨d0, d1, d2, d3⟩, _⟩ := (HB.out.rel r1).four)
    go_ret2
    exact ⟨rfl, HR.out.trans R1.out⟩
  · have HF := bad (.inr rfl)
    clear bad
    go_enter Tryz.func13, Tryz.ntmps13
    rw [HF.out]
    cases b1
    · go_wp2_with (go_at_call 6; (with_reducible refine (HC1.out _ HA.out).mono ?_); rintro e w1 ⟨rfl, r1⟩; have R1 := Lib.hid (HA.out.trans r1); obtain ⟨⟨d0, d1, d2, d3⟩, _⟩ := (HB.out.rel r1).four)
      go_ret2
      exact ⟨rfl, HR.out.trans R1.out⟩
    · go_wp2_with (first
        | (go_at_call 6; (with_reducible refine (HC1.out _ HA.out).mono ?_); rintro e w1 ⟨rfl, r1⟩; have R1 := Lib.hid (HA.out.trans r1); obtain ⟨⟨d0, d1, d2, d3⟩, _⟩ := (HB.out.rel r1).four)
        | (go_at_call 29; (with_reducible refine (HC2.out _ R1.out).mono ?_); rintro e w2 ⟨rfl, r2⟩; have R2 := Lib.hid (R1.out.trans r2)))
      go_ret2
      exact ⟨rfl, HR.out.trans R2.out⟩
  · clear bad
    have HF : condS os x = condN os 32 x := by unfold condS; rw [H1.out, H2.out]; rfl
    rw [HF]
    clear HF
    have hT := fun (w' : World) (hh : Rel w w') => (ptold_all 32).2 x S (k, n, nm, A', m, c') A c os w' w' (ifX_fine H2.out).1 (ifX_fine H2.out).2 (HR.out.trans hh).self (HE.out.rel hh) H1.out (HO.out.rel hh)
    cases hq : condN os 32 x with
    | error er =>
      have he := cond_err _ _ _ _ hq
      subst he
      rw [hq] at hT
      have HK := Lib.hid (fun (w' : World) (hh : Rel W w') => vreckonb_no (w.heap.size + 1) w.heap.size w' w' hh.self (fun w2 h2 => vcond1_no k n nm A' m c' (.slice A os.length c) (w.heap.size + 1) w.heap.size w2 w2 h2.self (HL.out.rel (hh.trans h2)) (HB.out.rel (hh.trans h2)) (fun w3 h3 => hT w3 ((HA.out.trans hh).trans (h2.trans h3)))))
      clear hT hq
      go_enter Tryz.func13, Tryz.ntmps13
      go_wp2_with (first
        | (go_at_call 6; (with_reducible refine (HC1.out _ HA.out).mono ?_); rintro e w1 ⟨rfl, r1⟩; have R1 := Lib.hid (HA.out.trans r1); obtain ⟨⟨d0, d1, d2, d3⟩, _⟩ := (HB.out.rel r1).four)
        | (go_at_call 29; (with_reducible refine (HC2.out _ R1.out).mono ?_); rintro e w2 ⟨rfl, r2⟩; have R2 := Lib.hid (R1.out.trans r2))
        | (go_at_call 30; (with_reducible refine (HK.out _ (HA.out.self.trans (r1.trans r2))).mono ?_); rintro e w3 ⟨rfl, r3⟩; have R3 := Lib.hid (R2.out.trans r3)))
      go_ret2
      exact ⟨rfl, HR.out.trans R3.out⟩
    | ok b =>
      rw [hq] at hT
      have HK := Lib.hid (fun (w' : World) (hh : Rel W w') => vreckonb_ok (w.heap.size + 1) w.heap.size b w' w' hh.self (fun w2 h2 => vcond1_ok k n nm A' m c' (.slice A os.length c) (w.heap.size + 1) w.heap.size b w2 w2 h2.self (HL.out.rel (hh.trans h2)) (HB.out.rel (hh.trans h2)) (fun w3 h3 => hT w3 ((HA.out.trans hh).trans (h2.trans h3)))))
      clear hT hq
      go_enter Tryz.func13, Tryz.ntmps13
      go_wp2_with (first
        | (go_at_call 6; (with_reducible refine (HC1.out _ HA.out).mono ?_); rintro e w1 ⟨rfl, r1⟩; have R1 := Lib.hid (HA.out.trans r1); obtain ⟨⟨d0, d1, d2, d3⟩, _⟩ := (HB.out.rel r1).four)
        | (go_at_call 29; (with_reducible refine (HC2.out _ R1.out).mono ?_); rintro e w2 ⟨rfl, r2⟩; have R2 := Lib.hid (R1.out.trans r2))
        | (go_at_call 30; (with_reducible refine (HK.out _ (HA.out.self.trans (r1.trans r2))).mono ?_); rintro e w3 ⟨rfl, r3⟩; have R3 := Lib.hid (R2.out.trans r3)))
      go_ret2
      exact ⟨rfl, HR.out.trans R3.out⟩
/-- What the program is asked, it is. -/
theorem valueOk : ValueOk := ⟨fun A c os w0 w hr ho => vright9_any A c os w0 w hr ho, veval_any, vcond_any⟩
end Go.Proofs.YtpehlldgnbajjaaGreatDoor
