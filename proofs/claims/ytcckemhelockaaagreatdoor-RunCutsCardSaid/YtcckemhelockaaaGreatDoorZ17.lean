/- What the landed Print and Right tell: all that the laws ask of the program; What the landed package value tells; The landed code: what is done of instructions; Run, Steps; The landed Run and Steps. -/
import Derived.Test.YtcckemhelockaaaGreatDoorZL
import Derived.Test.YtcckemhelockaaaGreatDoorZ00
import Derived.Test.YtcckemhelockaaaGreatDoorZ01
import Derived.Test.YtcckemhelockaaaGreatDoorZ02
import Derived.Test.YtcckemhelockaaaGreatDoorZ03
import Derived.Test.YtcckemhelockaaaGreatDoorZ04
import Derived.Test.YtcckemhelockaaaGreatDoorZ05
import Derived.Test.YtcckemhelockaaaGreatDoorZ07
import Derived.Test.YtcckemhelockaaaGreatDoorZ08
import Derived.Test.YtcckemhelockaaaGreatDoorZ09
import Derived.Test.YtcckemhelockaaaGreatDoorZ12
import Derived.Test.YtcckemhelockaaaGreatDoorZ13
import Derived.Test.YtcckemhelockaaaGreatDoorZ14
import Derived.Test.YtcckemhelockaaaGreatDoorZ15
import Derived.Test.YtcckemhelockaaaGreatDoorZ16
namespace Go.Proofs.YtcckemhelockaaaGreatDoor
open Go.RowKit Go.Lib
set_option linter.unusedVariables false
set_option linter.unusedSimpArgs false
theorem pr_new (w : World) (o : Obj) : Pr w.heap.size (w.heap.size + 1) [] 0 ((w.alloc o).alloc (.cells #[.pointer none, .slice none 0 0, .int .i64 0] 134)) := by
  have hb := Bk.new (w.alloc o) 134 #[.pointer none, .slice none 0 0, .int .i64 0]
  rw [World.size_alloc] at hb
  exact .inl ⟨by omega, _, hb, World.ownsRowF_of (World.ownsRow_nil _ _ _ _), by simp [Value.ownBlock]⟩
theorem right_of {x : Ex} (hc : isCond x.k = false) : rightX x = true ↔ fine (32 - 0) x = true ∧ ([] : List UInt8).length + (text x).length ≤ 2000 := by
  simp only [rightX, hc, Bool.and_eq_true, decide_eq_true_eq, List.length_nil, Nat.sub_zero, Nat.zero_add, Bool.not_false, and_true]
  constructor
  · rintro ⟨⟨a, _⟩, b⟩; exact ⟨a, b⟩
  · rintro ⟨a, b⟩; exact ⟨⟨a, by have := text_more x 32 a; omega⟩, b⟩
set_option maxRecDepth 100000 in
set_option maxHeartbeats 4000000 in
theorem tprint_any : PrintOk := fun x S e w0 w hr h hz => by
  have HR := Lib.hid hr
  obtain ⟨k, n, nm, A, m, c⟩ := e
  have hke : x.k = k := h.kind
  have HB := Lib.hid ((Bk.new w 38 #[.int .i64 k, .int .i64 n, .string (B nm), .slice A m c]).alloc (.cells #[.pointer none, .slice none 0 0, .int .i64 0] 134))
  have HA := Lib.hid ((hr.self.alloc (.cells #[.int .i64 k, .int .i64 n, .string (B nm), .slice A m c] 38)).alloc (.cells #[.pointer none, .slice none 0 0, .int .i64 0] 134))
  have HP := Lib.hid (pr_new w (.cells #[.int .i64 k, .int .i64 n, .string (B nm), .slice A m c] 38))
  obtain ⟨⟨c0, c1, c2, c3⟩, _⟩ := HB.out.four
  obtain ⟨bc, hbc⟩ : ∃ b, isCond k = b := ⟨_, rfl⟩
  have HBc := Lib.hid hbc
  cases bc with
  | true =>
    have HX := Lib.hid (show prT x = [] ∧ prE x = 1 by
      have : rightX x = false := by unfold rightX; rw [hke, hbc]; simp
      unfold prT prE; rw [this]; exact ⟨rfl, rfl⟩)
    clear h hbc
    go_enter Tryz.func46, Tryz.ntmps46
    go_wp2_with (go_at_call 91; (with_reducible refine (tcond_as k n (B nm) A m c true HBc _ _ HA.out.self).mono ?_); rintro e w2 ⟨rfl, h2⟩; obtain ⟨⟨d0, d1, d2, d3⟩, _⟩ := (HB.out.rel h2).four)
    go_ret2
    exact ⟨by rw [HX.out.1, HX.out.2]; rfl, (HR.out.trans HA.out).trans h2⟩
  | false =>
    obtain ⟨t, ht⟩ : ∃ t, rightX x = t := ⟨_, rfl⟩
    have hti : t = true ↔ fine (32 - 0) x = true ∧ ([] : List UInt8).length + (text x).length ≤ 2000 := by rw [← ht]; exact right_of (by rw [hke]; exact hbc)
    have HC := Lib.hid (fun (w2 : World) (h2 : Rel w w2) (hp : Pr w.heap.size (w.heap.size + 1) [] 0 w2) => pexpr_any x S (k, n, nm, A, m, c) (w.heap.size + 1) [] 0 t w w2 h2 h hp (by omega) (by simp) hz (Lib.hid hti))
    have HX := Lib.hid (show prT x = (if t then text x else []) ∧ prE x = (if t then 0 else 1) by unfold prT prE; rw [ht]; exact ⟨rfl, rfl⟩)
    have HNe := Lib.hid (show t = true → [] ++ text x ≠ [] from fun e => by
      have h1 := text_more x 32 (hti.1 e).1
      have h2 := size_pos x
      intro h
      rw [List.nil_append] at h
      rw [h, List.length_nil] at h1
      omega)
    clear h hbc hti ht
    cases t with
    | false =>
      go_enter Tryz.func46, Tryz.ntmps46
      go_wp2_with (first
        | (go_at_call 91; (with_reducible refine (tcond_as k n (B nm) A m c false HBc _ _ HA.out.self).mono ?_); rintro e w2 ⟨rfl, h2⟩; obtain ⟨⟨d0, d1, d2, d3⟩, _⟩ := (HB.out.rel h2).four)
        | (go_at_call 92; (with_reducible refine (HC.out _ (HA.out.trans h2) (HP.out.rel h2)).mono ?_); rintro e w3 ⟨rfl, p3, r3, k3⟩))
      go_ret2
      exact ⟨by rw [HX.out.1, HX.out.2]; rfl, HR.out.trans r3⟩
    | true =>
      go_enter Tryz.func46, Tryz.ntmps46
      go_wp2_with (first
        | (go_at_call 91; (with_reducible refine (tcond_as k n (B nm) A m c false HBc _ _ HA.out.self).mono ?_); rintro e w2 ⟨rfl, h2⟩; obtain ⟨⟨d0, d1, d2, d3⟩, _⟩ := (HB.out.rel h2).four)
        | (go_at_call 92; (with_reducible refine (HC.out _ (HA.out.trans h2) (HP.out.rel h2)).mono ?_); rintro e w3 ⟨rfl, p3, r3, k3⟩)
        | (go_at_call 93; (with_reducible refine (string_any (w.heap.size + 1) ([] ++ text x) 0 w _ r3 (by first | exact p3 rfl | exact p3 trivial) (by first | exact HNe.out rfl | exact HNe.out trivial)).mono ?_); rintro e w4 ⟨rfl, r4⟩))
      go_ret2
      exact ⟨by rw [HX.out.1, HX.out.2]; rfl, HR.out.trans r4⟩
set_option maxRecDepth 100000 in
set_option maxHeartbeats 2000000 in
theorem tright_any : RightOk := fun x S e w0 w hr h hz => by
  have HR := Lib.hid hr
  obtain ⟨k, n, nm, A, m, c⟩ := e
  have HA := Lib.hid (hr.self.alloc (.cells #[.int .i64 k, .int .i64 n, .string (B nm), .slice A m c] 38))
  have HP := Lib.hid (fun (w' : World) (h' : Rel w w') => tprint_any x S (k, n, nm, A, m, c) w' w' (hr.trans h').self (h.rel h') hz)
  obtain ⟨T, hT⟩ : ∃ T, B (prT x) = T := ⟨_, rfl⟩
  rw [hT] at HP
  clear hT
  cases hx : rightX x
  · have he : prE x = 1 := by unfold prE; rw [hx]; rfl
    rw [he] at HP
    clear h he hx
    go_enter Tryz.func28, Tryz.ntmps28
    go_wp2_with (go_at_call 46; (with_reducible refine (HP.out _ HA.out).mono ?_); rintro e w2 ⟨rfl, h2⟩)
    go_ret
    exact ⟨rfl, (HR.out.trans HA.out).trans h2⟩
  · have he : prE x = 0 := by unfold prE; rw [hx]; rfl
    rw [he] at HP
    clear h he hx
    go_enter Tryz.func28, Tryz.ntmps28
    go_wp2_with (go_at_call 46; (with_reducible refine (HP.out _ HA.out).mono ?_); rintro e w2 ⟨rfl, h2⟩)
    go_ret
    exact ⟨rfl, (HR.out.trans HA.out).trans h2⟩
end Go.Proofs.YtcckemhelockaaaGreatDoor

namespace Go.Proofs.YtcckemhelockaaaGreatDoor
open Go.RowKit Go.Lib
set_option linter.unusedVariables false
set_option linter.unusedSimpArgs false
theorem ri_ok (o : Option Int) : RV (.ok o) = .tuple #[.int .i64 (o.getD 0), .bool o.isSome, .int .i64 0] := by cases o <;> rfl
set_option maxRecDepth 100000 in
set_option maxHeartbeats 4000000 in
theorem veval_any : EvalOk := fun x S e A c os w0 w hr h hz ho => by
  have HR := Lib.hid hr
  have HE := Lib.hid h
  have HO := Lib.hid ho
  obtain ⟨k, n, nm, A', m, c'⟩ := e
  have HB := Lib.hid ((Bk.new w 38 #[.int .i64 k, .int .i64 n, .string (B nm), .slice A' m c']).alloc (.cells #[.slice A os.length c] 24))
  have HL := Lib.hid (Bk.snd w #[.int .i64 k, .int .i64 n, .string (B nm), .slice A' m c'] #[.slice A os.length c] 38 24)
  have HA := Lib.hid ((hr.self.alloc (.cells #[.int .i64 k, .int .i64 n, .string (B nm), .slice A' m c'] 38)).alloc (.cells #[.slice A os.length c] 24))
  obtain ⟨W, hW⟩ : ∃ W, (w.alloc (.cells #[.int .i64 k, .int .i64 n, .string (B nm), .slice A' m c'] 38)).alloc (.cells #[.slice A os.length c] 24) = W := ⟨_, rfl⟩
  rw [hW] at HA HB HL
  have hc1 := fun (w' : World) (hh : Rel w w') => vright9_any A c os w' w' (hr.self.trans hh).self (ho.rel hh)
  have hc2 := fun (w' : World) (hh : Rel w w') => tright_any x S (k, n, nm, A', m, c') w' w' (hr.self.trans hh).self (h.rel hh) (by omega)
  obtain ⟨b1, h1⟩ : ∃ b, offsOk os = b := ⟨_, rfl⟩
  obtain ⟨b2, h2⟩ : ∃ b, rightX x = b := ⟨_, rfl⟩
  rw [h1] at hc1
  rw [h2] at hc2
  have HC1 := Lib.hid hc1
  have HC2 := Lib.hid hc2
  have H1 := Lib.hid h1
  have H2 := Lib.hid h2
  obtain ⟨⟨x0, x1, x2, x3⟩, _⟩ := HB.out.four
  have l0 := HL.out.cell 0
  simp only [List.getElem?_toArray, List.getElem?_cons_zero] at l0
  clear h ho hc1 hc2 h1 h2 hr
  have key : b1 = false ∨ b2 = false ∨ (b1 = true ∧ b2 = true) := by cases b1 <;> cases b2 <;> simp
  have bad : b1 = false ∨ b2 = false → Hid (evalS os x = .error 1) := fun hb => Lib.hid (by
    unfold evalS; rw [H1.out, H2.out]
    rcases hb with rfl | rfl
    · rfl
    · rw [Bool.and_false]; rfl)
  rcases key with rfl | rfl | ⟨rfl, rfl⟩
  · have HF := bad (.inl rfl)
    clear bad
    go_enter Tryz.func19, Tryz.ntmps19
    rw [HF.out]
    go_wp2_with (go_at_call 31; (with_reducible refine (HC1.out _ HA.out).mono ?_); rintro e w1 ⟨rfl, r1⟩; have R1 := Lib.hid (HA.out.trans r1); obtain ⟨⟨d0, d1, d2, d3⟩, _⟩ := (HB.out.rel r1).four)
    go_ret3
    exact ⟨rfl, HR.out.trans R1.out⟩
  · have HF := bad (.inr rfl)
    clear bad
    go_enter Tryz.func19, Tryz.ntmps19
    rw [HF.out]
    cases b1
    · go_wp2_with (go_at_call 31; (with_reducible refine (HC1.out _ HA.out).mono ?_); rintro e w1 ⟨rfl, r1⟩; have R1 := Lib.hid (HA.out.trans r1); obtain ⟨⟨d0, d1, d2, d3⟩, _⟩ := (HB.out.rel r1).four)
      go_ret3
      exact ⟨rfl, HR.out.trans R1.out⟩
    · go_wp2_with (first
        | (go_at_call 31; (with_reducible refine (HC1.out _ HA.out).mono ?_); rintro e w1 ⟨rfl, r1⟩; have R1 := Lib.hid (HA.out.trans r1); obtain ⟨⟨d0, d1, d2, d3⟩, _⟩ := (HB.out.rel r1).four)
        | (go_at_call 28; (with_reducible refine (HC2.out _ R1.out).mono ?_); rintro e w2 ⟨rfl, r2⟩; have R2 := Lib.hid (R1.out.trans r2)))
      go_ret3
      exact ⟨rfl, HR.out.trans R2.out⟩
  · clear bad
    have HF : evalS os x = toldN os 32 x := by unfold evalS; rw [H1.out, H2.out]; rfl
    rw [HF]
    clear HF
    have hT := fun (w' : World) (hh : Rel w w') => (ptold_all 32).1 x S (k, n, nm, A', m, c') A c os w' w' (right_fine H2.out).1 (right_fine H2.out).2 (HR.out.trans hh).self (HE.out.rel hh) H1.out (HO.out.rel hh)
    cases hq : toldN os 32 x with
    | error er =>
      have he := told_err _ _ _ _ hq
      subst he
      have hT := fun (w' : World) (hh : Rel w w') => tp_no (hT w' hh) hq
      have HK := Lib.hid (fun (w' : World) (hh : Rel W w') => vreckon_no (w.heap.size + 1) w.heap.size w' w' hh.self (fun w2 h2 => veval1_no k n nm A' m c' (.slice A os.length c) (w.heap.size + 1) w.heap.size w2 w2 h2.self (HL.out.rel (hh.trans h2)) (HB.out.rel (hh.trans h2)) (fun w3 h3 => hT w3 ((HA.out.trans hh).trans (h2.trans h3)))))
      clear hT hq
      go_enter Tryz.func19, Tryz.ntmps19
      go_upto_region 4 with (first
        | (go_at_call 31; (with_reducible refine (HC1.out _ HA.out).mono ?_); rintro e w1 ⟨rfl, r1⟩; have R1 := Lib.hid (HA.out.trans r1); obtain ⟨⟨d0, d1, d2, d3⟩, _⟩ := (HB.out.rel r1).four)
        | (go_at_call 28; (with_reducible refine (HC2.out _ R1.out).mono ?_); rintro e w2 ⟨rfl, r2⟩; have R2 := Lib.hid (R1.out.trans r2))
        | (go_at_call 32; (with_reducible refine (HK.out _ (HA.out.self.trans (r1.trans r2))).mono ?_); rintro e w3 ⟨rfl, r3⟩; have R3 := Lib.hid (R2.out.trans r3)))
      have HU := Lib.hid (Bk.new w3 81 #[.int .i64 0, .bool false])
      have RU := Lib.hid (R3.out.alloc (.cells #[.int .i64 0, .bool false] 81))
      obtain ⟨U, hU⟩ : ∃ U, w3.alloc (.cells #[.int .i64 0, .bool false] 81) = U := ⟨_, rfl⟩
      rw [hU] at HU RU ⊢
      clear hU
      obtain ⟨⟨p0, p1⟩, _⟩ := HU.out.two
      go_quiet (fail)
      go_wp2_with (fail)
      go_ret3
      exact ⟨rfl, (HR.out.trans RU.out).drewN _⟩
    | ok o =>
      rw [ri_ok]
      obtain ⟨V, hV⟩ : ∃ V, o.getD 0 = V := ⟨_, rfl⟩
      obtain ⟨b, hb⟩ : ∃ b, o.isSome = b := ⟨_, rfl⟩
      rw [hV, hb]
      have hT := fun (w' : World) (hh : Rel w w') => tp_ok (hT w' hh) hq hV hb
      have HK := Lib.hid (fun (w' : World) (hh : Rel W w') => vreckon_ok (w.heap.size + 1) w.heap.size V b w' w' hh.self (fun w2 h2 => veval1_ok k n nm A' m c' (.slice A os.length c) (w.heap.size + 1) w.heap.size V b w2 w2 h2.self (HL.out.rel (hh.trans h2)) (HB.out.rel (hh.trans h2)) (fun w3 h3 => hT w3 ((HA.out.trans hh).trans (h2.trans h3)))))
      clear hT hq hV hb
      go_enter Tryz.func19, Tryz.ntmps19
      go_upto_region 4 with (first
        | (go_at_call 31; (with_reducible refine (HC1.out _ HA.out).mono ?_); rintro e w1 ⟨rfl, r1⟩; have R1 := Lib.hid (HA.out.trans r1); obtain ⟨⟨d0, d1, d2, d3⟩, _⟩ := (HB.out.rel r1).four)
        | (go_at_call 28; (with_reducible refine (HC2.out _ R1.out).mono ?_); rintro e w2 ⟨rfl, r2⟩; have R2 := Lib.hid (R1.out.trans r2))
        | (go_at_call 32; (with_reducible refine (HK.out _ (HA.out.self.trans (r1.trans r2))).mono ?_); rintro e w3 ⟨rfl, r3⟩; have R3 := Lib.hid (R2.out.trans r3)))
      have HU := Lib.hid (Bk.new w3 81 #[.int .i64 V, .bool b])
      have RU := Lib.hid (R3.out.alloc (.cells #[.int .i64 V, .bool b] 81))
      obtain ⟨U, hU⟩ : ∃ U, w3.alloc (.cells #[.int .i64 V, .bool b] 81) = U := ⟨_, rfl⟩
      rw [hU] at HU RU ⊢
      clear hU
      obtain ⟨⟨p0, p1⟩, _⟩ := HU.out.two
      go_quiet (fail)
      go_wp2_with (fail)
      go_ret3
      exact ⟨rfl, (HR.out.trans RU.out).drewN _⟩
end Go.Proofs.YtcckemhelockaaaGreatDoor

namespace Go.Proofs.YtcckemhelockaaaGreatDoor
open Go.RowKit Go.Lib
set_option linter.unusedVariables false
set_option linter.unusedSimpArgs false
/-- Where a machine ends, and in how many steps. -/
def doneR (os : List Of) (l : List In) : Ms × Nat := if offsOk os then (if codeOk l then goM os l 0 ([], 0) 0 else (([], 100), 0)) else (([], 1), 0)
theorem run_done (os : List Of) (l : List In) : runS os l = endR (doneR os l).1 ∧ stepsS os l = (doneR os l).2 := by
  unfold runS stepsS doneR
  cases offsOk os <;> cases codeOk l <;> exact ⟨rfl, rfl⟩
/-- The next place, read of the machine. -/
def nxAt (b : Nat) (w : World) : Nat := match w.cell? ⟨b, 1, none⟩ with
  | some (.int _ n) => n.toNat
  | _ => 0
theorem nxAt_eq {w : World} {C D b i : Nat} {ov : Value} {st : Int} {S : List Ce} (h : Mh w C D b ov (i : Int) st S) : nxAt b w = i := by
  obtain ⟨A, c, hb⟩ := h.cells
  obtain ⟨⟨_, b1, _, _⟩, _⟩ := hb.four
  unfold nxAt
  rw [b1]
  simp
theorem lfn_zero (w : World) : (zeroValue 90).run Tryz.prog w = .ok .nilFunc w := by kernel_rfl
theorem lops_run {w : World} {q b : Nat} (h : MapIs w q (lopsL b)) (o : Int) (ho : i64 o) {v : Value} (hv : look (lopsL b) o = some v) :
    (Instr.lookup 88 (.map (some q)) (.int .i64 o) false).run Tryz.prog w = .ok v w := by
  have := h.look 88 90 Tryz.underlying88 .nilFunc (lfn_zero w) o (WalkArith.wf_i64 ho)
  rw [hv] at this
  exact this
def DonePost (w : World) (ov : Value) (R : Ms × Nat) (e : Ending) (w' : World) : Prop :=
  ∃ (b D : Nat) (nx : Int) (S : List Ce), e = .returned (.tuple #[.pointer (some ⟨b, 0, none⟩), .int .i64 R.1.2]) ∧ Mh w' w.heap.size D b ov nx (R.2 : Int) S ∧ (R.1.2 = 0 → S = R.1.1) ∧ Rel w w'
set_option maxRecDepth 100000 in
set_option maxHeartbeats 8000000 in
theorem ldone_any (H : EvalOk) (A A' : Option Addr) (c c' : Nat) (l : List In) (os : List Of) (w0 w : World) (hr : Rel w0 w) (h : InsArg w A c l) (ho : OffArg w A' c' os) :
    Calls Tryz.prog 25 #[.slice A l.length c, .slice A' os.length c'] w (DonePost w (.slice A' os.length c') (doneR os l)) := by
  obtain ⟨len, hlen⟩ : ∃ len, l.length = len := ⟨_, rfl⟩
  obtain ⟨olen, holen⟩ : ∃ olen, os.length = olen := ⟨_, rfl⟩
  rw [hlen, holen]
  have HL := Lib.hid hlen
  have HO := Lib.hid holen
  have HS := Lib.hid hr.self
  have HI := Lib.hid h
  have HF := Lib.hid ho
  have HA := Lib.hid (hr.self.alloc (.cells #[.slice A' olen c', .int .i64 0, .int .i64 0, .slice none 0 0] 62))
  have HM := Lib.hid (show Mh (w.alloc (.cells #[.slice A' olen c', .int .i64 0, .int .i64 0, .slice none 0 0] 62)) w.heap.size (w.heap.size + 1) w.heap.size (.slice A' olen c') 0 0 [] from
    Mh.of (L := 0) (Nat.le_refl _) (Nat.lt_succ_self _) (by rw [World.size_alloc]; exact Nat.le_refl _) (by decide) rfl (Bk.new w 62 _) (StkOwn.nil _ _ _) (fun g e => by cases e))
  have HB := Lib.hid (Bk.new w 62 #[.slice A' olen c', .int .i64 0, .int .i64 0, .slice none 0 0])
  obtain ⟨W, hW⟩ : ∃ W, w.alloc (.cells #[.slice A' olen c', .int .i64 0, .int .i64 0, .slice none 0 0] 62) = W := ⟨_, rfl⟩
  rw [hW] at HA HM HB
  have HV := Lib.hid (show ∀ w1, Rel w w1 → Calls Tryz.prog 31 #[.slice A' olen c'] w1 fun z w' => z = .returned (.bool (offsOk os)) ∧ Rel w1 w' from fun w1 h1 => by
    have := vright9_any A' c' os w1 w1 (hr.self.trans h1).self (HF.out.rel h1)
    rw [HO.out] at this; exact this)
  have HC := Lib.hid (show ∀ w1, Rel w w1 → Calls Tryz.prog 41 #[.slice A len c] w1 fun z w' => z = .returned (.bool (codeOk l)) ∧ Rel w1 w' from fun w1 h1 => by
    have := cright_any A c l w1 w1 (hr.self.trans h1).self (HI.out.rel h1)
    rw [HL.out] at this; exact this)
  clear hr h ho hlen holen
  cases hok : offsOk os with
  | false =>
    have HD := Lib.hid (show doneR os l = (([], 1), 0) by unfold doneR; rw [hok]; rfl)
    rw [hok] at HV
    go_enter Tryz.func25, Tryz.ntmps25
    go_wp2_with (go_at_call 31; (with_reducible refine (HV.out _ HA.out).mono ?_); rintro e w1 ⟨rfl, h1⟩)
    go_ret2
    exact ⟨w.heap.size, _, _, [], by (rw [HD.out]; try rfl), by rw [HD.out]; exact HM.out.rel h1, fun _ => by rw [HD.out], HA.out.trans h1⟩
  | true =>
  rw [hok] at HV
  cases hcd : codeOk l with
  | false =>
    have HD := Lib.hid (show doneR os l = (([], 100), 0) by unfold doneR; rw [hok, hcd]; rfl)
    rw [hcd] at HC
    go_enter Tryz.func25, Tryz.ntmps25
    go_wp2_with (first
      | (go_at_call 31; (with_reducible refine (HV.out _ HA.out).mono ?_); rintro e w1 ⟨rfl, h1⟩; have R1 := Lib.hid (HA.out.trans h1); have M1 := Lib.hid (HM.out.rel h1); clear h1)
      | (go_at_call 41; (with_reducible refine (HC.out _ R1.out).mono ?_); rintro e w2 ⟨rfl, h2⟩))
    go_ret2
    exact ⟨w.heap.size, _, _, [], by (rw [HD.out]; try rfl), by rw [HD.out]; exact M1.out.rel h2, fun _ => by rw [HD.out], R1.out.trans h2⟩
  | true =>
  rw [hcd] at HC
  have HOk := Lib.hid hok
  have HCd := Lib.hid hcd
  have HD := Lib.hid (show doneR os l = goM os l 0 ([], 0) 0 by unfold doneR; rw [hok, hcd]; rfl)
  have hl5 : len ≤ 5000 := by have := (codeOk_iff.1 hcd).1; have := HL.out; omega
  have HFw := Lib.hid (fwd_of hcd)
  clear hok hcd
  go_enter Tryz.func25, Tryz.ntmps25
  go_wp2_with (first
    | (go_at_call 31; (with_reducible refine (HV.out _ HA.out).mono ?_); rintro e w1 ⟨rfl, h1⟩; have R1 := Lib.hid (HA.out.trans h1); have M1 := Lib.hid (HM.out.rel h1); clear h1)
    | (go_at_call 41; (with_reducible refine (HC.out _ R1.out).mono ?_); rintro e w2 ⟨rfl, h2⟩; have R2 := Lib.hid (R1.out.trans h2); have M2 := Lib.hid (M1.out.rel h2); clear h2)
    | (go_at_call 42; (with_reducible refine (loperations_any w.heap.size w _ R2.out).mono ?_); rintro e w3 ⟨q, rfl, hq, mq, h3⟩; have R3 := Lib.hid (R2.out.trans h3); have M3 := Lib.hid (M2.out.rel h3); have MQ := Lib.hid mq; have hqb : q ≠ w.heap.size := (by have := M2.out.lt; omega); clear h3 mq hq))
  obtain ⟨R, hR⟩ : ∃ R, goM os l 0 ([], 0) 0 = R := ⟨_, rfl⟩
  have HRr := Lib.hid hR
  clear hR
  go_loopw [] (fun wr => ∃ (i k D : Nat) (S : List Ce), Hid (Mh wr w.heap.size D w.heap.size (.slice A' olen c') (i : Int) (k : Int) S) ∧ i ≤ len ∧ k ≤ i ∧ Hid (goM os l i (S, 0) k = R) ∧ Hid (Rel w wr) ∧ Hid (MapIs wr q (lopsL w.heap.size))) (fun wr => len - nxAt w.heap.size wr)
  case atStart => exact ⟨0, 0, _, [], M3, Nat.zero_le _, Nat.le_refl _, HRr, R3, MQ⟩
  case round =>
    obtain ⟨i, k, D, S, HMr, hi, hk, HG, HRw, HQ⟩ := hrel
    have hMr := HMr.out
    obtain ⟨Ab, cb, hbb⟩ := hMr.cells
    obtain ⟨⟨b0, b1, b2, b3⟩, f0, f1, f2, f3⟩ := hbb.four
    have hblt := hMr.lt
    have hDw := hMr.2.2.1
    clear hbb hMr
    by_cases hlt : i < len
    · have hlt' : i < l.length := by rw [HL.out]; exact hlt
      obtain ⟨g, off, o, n, nm, rfl, c0, c1, c2, hli⟩ := ins_at HI.out.2.2.2 HRw.out i hlt'
      have hin := (codeOk_iff.1 HCd.out).2 i hlt'
      rw [hli] at hin
      have hfit := HI.out.2.2.1 _ (List.getElem_mem hlt')
      rw [hli] at hfit
      obtain ⟨fn, hlook, hfn, hop⟩ := lops_any veval_any w.heap.size os HOk.out A' c' l.length i o n nm hin
      have hnext := step_next (l := os) HFw.out hlt' (S, 0)
      have hstep := go_step (l := os) HFw.out (show l[i]? = some (o, n, nm) by rw [List.getElem?_eq_getElem hlt', hli]) S k
      rw [hli] at hnext
      rw [HG.out] at hstep
      obtain ⟨⟨nn, T, er⟩, hm⟩ : ∃ m, stepM os (o, n, nm) i (S, 0) = m := ⟨_, rfl⟩
      have hop := fun (D : Nat) (st : Int) (w1 : World) (h1 : Rel w w1) (h2 : Mh w1 w.heap.size D w.heap.size (.slice A' olen c') ((i + 1 : Nat) : Int) st S) => by
        have := hop D st S w w1 h1 (by rw [HO.out]; exact h2) (HF.out.rel h1)
        rw [hm, HO.out] at this
        exact this
      rw [hm] at hnext hstep
      have HOp := Lib.hid hop
      have HSt := Lib.hid hstep
      have hn1 : i < nn := hnext.1
      have hn2 : nn ≤ len := by rw [← HL.out]; exact hnext.2
      have HX1 := Lib.hid (Bk.new wr 45 #[.int .i64 o, .int .i64 n, .string (B nm)])
      have HR1 := Lib.hid (HRw.out.alloc (.cells #[.int .i64 o, .int .i64 n, .string (B nm)] 45))
      have HM1 := Lib.hid (HMr.out.rel (HRw.out.self.alloc (.cells #[.int .i64 o, .int .i64 n, .string (B nm)] 45)))
      have HQ1 := Lib.hid (HQ.out.alloc (.cells #[.int .i64 o, .int .i64 n, .string (B nm)] 45))
      have hxb : wr.heap.size ≠ w.heap.size := by omega
      have HLk := Lib.hid hlook
      have HFt := Lib.hid hfit.1
      clear hop hstep hnext hli hin hfit hlook hm hlt'
      go_upto_region 9 with (fail)
      obtain ⟨V1, hV1⟩ : ∃ V, wr.alloc (.cells #[.int .i64 o, .int .i64 n, .string (B nm)] 45) = V := ⟨_, rfl⟩
      rw [hV1] at HX1 HR1 HM1 HQ1
      try rw [hV1]
      clear hV1 b0 b1 b2 b3 f0 f1 f2 f3 c0 c1 c2
      obtain ⟨A1, k1, hb1⟩ := HM1.out.cells
      obtain ⟨⟨b0, b1, b2, b3⟩, f0, f1, f2, f3⟩ := hb1.four
      have HX2 := Lib.hid (HX1.out.far (p := ⟨w.heap.size, 1, none⟩) hxb (.int .i64 ((i : Int) + 1)))
      have HR2 := Lib.hid (HR1.out.setCell (p := ⟨w.heap.size, 1, none⟩) (Nat.le_refl _) (.int .i64 ((i : Int) + 1)))
      have HM2 := Lib.hid (show Mh (V1.setCell ⟨w.heap.size, 1, none⟩ (.int .i64 ((i : Int) + 1))) w.heap.size D w.heap.size (.slice A' olen c') ((i + 1 : Nat) : Int) (k : Int) S from HM1.out.next ((i : Int) + 1))
      have HQ2 := Lib.hid (HQ1.out.set (p := ⟨w.heap.size, 1, none⟩) hqb (.int .i64 ((i : Int) + 1)))
      clear hb1
      go_upto_region 10 with (fail)
      obtain ⟨V2, hV2⟩ : ∃ V, V1.setCell ⟨w.heap.size, 1, none⟩ (.int .i64 ((i : Int) + 1)) = V := ⟨_, rfl⟩
      rw [hV2] at HX2 HR2 HM2 HQ2
      try rw [hV2]
      clear hV2 b0 b1 b2 b3 f0 f1 f2 f3
      obtain ⟨A2, k2, hb2⟩ := HM2.out.cells
      obtain ⟨⟨b0, b1, b2, b3⟩, f0, f1, f2, f3⟩ := hb2.four
      have HX3 := Lib.hid (HX2.out.far (p := ⟨w.heap.size, 2, none⟩) hxb (.int .i64 ((k : Int) + 1)))
      have HR3 := Lib.hid (HR2.out.setCell (p := ⟨w.heap.size, 2, none⟩) (Nat.le_refl _) (.int .i64 ((k : Int) + 1)))
      have HM3 := Lib.hid (HM2.out.step ((k : Int) + 1))
      have HQ3 := Lib.hid (HQ2.out.set (p := ⟨w.heap.size, 2, none⟩) hqb (.int .i64 ((k : Int) + 1)))
      clear hb2
      go_upto_region 11 with (fail)
      obtain ⟨V3, hV3⟩ : ∃ V, V2.setCell ⟨w.heap.size, 2, none⟩ (.int .i64 ((k : Int) + 1)) = V := ⟨_, rfl⟩
      rw [hV3] at HX3 HR3 HM3 HQ3
      try rw [hV3]
      clear hV3 b0 b1 b2 b3 f0 f1 f2 f3
      obtain ⟨⟨x0, x1, x2⟩, _⟩ := three_of HX3.out
      have lk := lops_run HQ3.out o HFt.out HLk.out
      by_cases he : er = 0
      · subst he
        go_wp2_with ((with_reducible refine (HOp.out D ((k : Int) + 1) V3 HR3.out (by exact HM3.out)).mono ?_); rintro e w4 ⟨rfl, r4, k4, D4, S4, nx4, m4, e4⟩; have E4 := Lib.hid (e4 rfl); clear e4)
        have m5 : Mh w4 w.heap.size D4 w.heap.size (.slice A' olen c') (nn : Int) ((k + 1 : Nat) : Int) T := by
          have e5 : nx4 = (nn : Int) := E4.out.1
          have e6 : S4 = T := E4.out.2
          rw [← e5, ← e6]; exact m4
        clear E4 m4
        go_roundw
        case rel => exact ⟨nn, k + 1, D4, T, Lib.hid m5, hn2, by omega, Lib.hid HSt.out.symm, Lib.hid r4, Lib.hid (MapIs.kr HQ3.out k4 hqb)⟩
        case measure =>
          rw [nxAt_eq (i := nn) m5, nxAt_eq HMr.out]
          omega
      · have heb : (er == 0) = false := by simpa using he
        have hen : (er != 0) = true := by simpa using he
        go_wp2_with ((with_reducible refine (HOp.out D ((k : Int) + 1) V3 HR3.out (by exact HM3.out)).mono ?_); rintro e w4 ⟨rfl, r4, k4, D4, S4, nx4, m4, e4⟩)
        go_ret2
        have hend := HSt.out
        rw [go_err os l nn (T, er) (k + 1) he] at hend
        have hdr : doneR os l = ((T, er), k + 1) := by rw [HD.out, HRr.out]; exact hend
        exact ⟨w.heap.size, D4, nx4, S4, by (rw [hdr]; try rfl), by rw [hdr]; exact m4, fun h0 => absurd (by rw [hdr] at h0; exact h0) he, r4⟩
    · obtain rfl : i = len := by omega
      have hend := HG.out
      rw [go_end os l i (S, 0) k (by rw [HL.out]; exact Nat.le_refl _)] at hend
      have hdr : doneR os l = ((S, 0), k) := by rw [HD.out, HRr.out]; exact hend.symm
      have HDr := Lib.hid hdr
      clear hdr hend
      go_wp2_with (fail)
      go_ret2
      exact ⟨w.heap.size, D, _, S, by (rw [HDr.out]; try rfl), by rw [HDr.out]; exact HMr.out, fun _ => by rw [HDr.out], HRw.out⟩
end Go.Proofs.YtcckemhelockaaaGreatDoor

namespace Go.Proofs.YtcckemhelockaaaGreatDoor
open Go.RowKit Go.Lib
set_option linter.unusedVariables false
set_option linter.unusedSimpArgs false
theorem rv_err (e : Int) : RV (.error e) = .tuple #[.int .i64 0, .bool false, .int .i64 e] := rfl
theorem end_err {T : List Ce} {er : Int} (h : er ≠ 0) : endR (T, er) = .error er := by unfold endR; rw [if_neg h]
theorem end_one (c : Ce) : endR ([c], 0) = .ok c := rfl
theorem end_not {T : List Ce} (h : T.length ≠ 1) : endR (T, 0) = .error 100 := by
  unfold endR
  rw [if_pos rfl]
  match T, h with
  | [], _ => rfl
  | [c], h => exact absurd rfl h
  | _ :: _ :: _, _ => rfl
def DP (w : World) (ov : Value) (T : List Ce) (er : Int) (k : Nat) (e : Ending) (w' : World) : Prop :=
  ∃ (b D : Nat) (nx : Int) (S : List Ce), e = .returned (.tuple #[.pointer (some ⟨b, 0, none⟩), .int .i64 er]) ∧ Hid (Mh w' w.heap.size D b ov nx (k : Int) S) ∧ Hid (er = 0 → S = T) ∧ Hid (Rel w w')
theorem ldone_as (A A' : Option Addr) (c c' : Nat) (l : List In) (os : List Of) (T : List Ce) (er : Int) (k : Nat) (hd : Hid (doneR os l = ((T, er), k))) (w0 w : World) (hr : Rel w0 w) (h : InsArg w A c l) (ho : OffArg w A' c' os) (n m : Nat) (hn : Hid (l.length = n ∧ os.length = m)) :
    Calls Tryz.prog 25 #[.slice A n c, .slice A' m c'] w (DP w (.slice A' m c') T er k) := by
  obtain ⟨h1, h2⟩ := hn.out
  subst h1 h2
  refine (ldone_any veval_any A A' c c' l os w0 w hr h ho).mono ?_
  rintro e w' ⟨b, D, nx, S, h1, h2, h3, h4⟩
  rw [hd.out] at h1 h2 h3
  exact ⟨b, D, nx, S, h1, Lib.hid h2, Lib.hid h3, Lib.hid h4⟩
/-- A stack of one, read. -/
theorem Mh.one {w : World} {C D b : Nat} {ov : Value} {nx st : Int} {x : Ce} (h : Mh w C D b ov nx st [x]) :
    ∃ (A : Option Addr) (g c : Nat), Bk w b 62 #[ov, .int .i64 nx, .int .i64 st, .slice A 1 c] ∧ A = some ⟨g, 0, none⟩ ∧ w.cell? ⟨g, 0, none⟩ = some (.int .i64 (x.getD 0)) ∧ w.cell? ⟨g, 1, none⟩ = some (.bool x.isSome) := by
  obtain ⟨h1, h2, h3, h4, A, c, hb, ho, h5⟩ := h
  obtain ⟨g, cap, hv, _, _, _, t0, t1, _⟩ := StkOwn.top (S := []) (c := x) ho
  injection hv with e1 e2 e3
  exact ⟨A, g, c, hb, e1, t0, t1⟩
theorem Mh.not {w : World} {C D b : Nat} {ov : Value} {nx st : Int} {T : List Ce} (h : Mh w C D b ov nx st T) (hn : T.length ≠ 1) :
    ∃ (A : Option Addr) (c L : Nat), Bk w b 62 #[ov, .int .i64 nx, .int .i64 st, .slice A L c] ∧ ((L : Int) != 1) = true := by
  obtain ⟨h1, h2, h3, h4, A, c, hb, ho, h5⟩ := h
  exact ⟨A, c, T.length, hb, by simp; omega⟩
set_option maxRecDepth 100000 in
set_option maxHeartbeats 8000000 in
theorem lsteps_any : RStepsOk := fun A A' c c' l os w0 w hr h ho => by
  obtain ⟨⟨⟨T, er⟩, k⟩, hR⟩ : ∃ R, doneR os l = R := ⟨_, rfl⟩
  have hk : stepsS os l = k := by rw [(run_done os l).2, hR]
  rw [hk]
  obtain ⟨n, hn⟩ : ∃ n, l.length = n := ⟨_, rfl⟩
  obtain ⟨m, hm⟩ : ∃ m, os.length = m := ⟨_, rfl⟩
  have HC := Lib.hid (ldone_as A A' c c' l os T er k (Lib.hid hR) w0 w hr h ho n m (Lib.hid ⟨hn, hm⟩))
  rw [hn, hm]
  have HR := Lib.hid hr
  clear hr h ho hR hk hn hm
  go_enter Tryz.func15, Tryz.ntmps15
  go_wp2_with (go_at_call 25; (with_reducible refine HC.out.mono ?_); rintro e w1 ⟨b, D, nx, S, rfl, HM, HT, HW⟩; obtain ⟨A1, c1, hb⟩ := HM.out.cells; obtain ⟨⟨b0, b1, b2, b3⟩, _⟩ := hb.four; clear hb)
  go_ret
  exact ⟨rfl, HR.out.trans HW.out⟩
set_option maxRecDepth 100000 in
set_option maxHeartbeats 8000000 in
theorem lrun_any : RunOk := fun A A' c c' l os w0 w hr h ho => by
  obtain ⟨⟨⟨T, er⟩, k⟩, hR⟩ : ∃ R, doneR os l = R := ⟨_, rfl⟩
  have hE : runS os l = endR (T, er) := by rw [(run_done os l).1, hR]
  rw [hE]
  obtain ⟨n, hn⟩ : ∃ n, l.length = n := ⟨_, rfl⟩
  obtain ⟨m, hm⟩ : ∃ m, os.length = m := ⟨_, rfl⟩
  have HC := Lib.hid (ldone_as A A' c c' l os T er k (Lib.hid hR) w0 w hr h ho n m (Lib.hid ⟨hn, hm⟩))
  rw [hn, hm]
  have HR := Lib.hid hr
  clear hr h ho hR hE hn hm
  by_cases he : er = 0
  · subst he
    by_cases h1 : T.length = 1
    · obtain ⟨x, rfl⟩ : ∃ x, T = [x] := by
        match T, h1 with
        | [x], _ => exact ⟨x, rfl⟩
      rw [end_one, lrv_ok]
      obtain ⟨p, hp⟩ : ∃ p, x.getD 0 = p := ⟨_, rfl⟩
      obtain ⟨q, hq⟩ : ∃ q, x.isSome = q := ⟨_, rfl⟩
      rw [hp, hq]
      have HX := Lib.hid (And.intro hp hq)
      clear hp hq h1
      go_enter Tryz.func13, Tryz.ntmps13
      go_upto_region 6 with (go_at_call 25; (with_reducible refine HC.out.mono ?_); rintro e w1 ⟨b, D, nx, S, rfl, HM, HT, HW⟩; obtain ⟨A1, g1, c1, hb, hA, t0, t1⟩ := Mh.one (x := x) (by have := HM.out; rw [HT.out rfl] at this; exact this); subst hA; rw [HX.out.1] at t0; rw [HX.out.2] at t1; obtain ⟨⟨b0, b1, b2, b3⟩, _⟩ := hb.four; clear hb HM HT)
      go_quiet (fail)
      go_wp2_with (fail)
      go_ret3
      exact ⟨rfl, (HR.out.trans HW.out).drewN _⟩
    · rw [end_not h1, rv_err]
      have HN := Lib.hid h1
      clear h1
      go_enter Tryz.func13, Tryz.ntmps13
      go_wp2_with (go_at_call 25; (with_reducible refine HC.out.mono ?_); rintro e w1 ⟨b, D, nx, S, rfl, HM, HT, HW⟩; obtain ⟨A1, c1, L1, hb, t1⟩ := Mh.not (T := T) (by have := HM.out; rw [HT.out rfl] at this; exact this) HN.out; obtain ⟨⟨b0, b1, b2, b3⟩, _⟩ := hb.four; clear hb HM HT)
      go_ret3
      exact ⟨rfl, HR.out.trans HW.out⟩
  · rw [end_err he, rv_err]
    have heb : (er == 0) = false := by simpa using he
    have hen : (er != 0) = true := by simpa using he
    go_enter Tryz.func13, Tryz.ntmps13
    go_wp2_with (go_at_call 25; (with_reducible refine HC.out.mono ?_); rintro e w1 ⟨b, D, nx, S, rfl, HM, HT, HW⟩)
    go_ret3
    exact ⟨rfl, HR.out.trans HW.out⟩
theorem runsOk : RunsOk := ⟨lrun_any, lsteps_any⟩
end Go.Proofs.YtcckemhelockaaaGreatDoor
