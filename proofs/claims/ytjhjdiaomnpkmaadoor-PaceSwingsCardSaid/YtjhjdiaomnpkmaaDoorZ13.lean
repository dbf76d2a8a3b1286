/- The landed parser: the closure that recovers; The landed parser: a strategy of tokens; A loop over a function, whose iterator reads boxes of its own behind a yield: from the iterator's contract and one walk of the body. -/
import Derived.Test.YtjhjdiaomnpkmaaDoorZL
import Derived.Test.YtjhjdiaomnpkmaaDoorZ00
import Derived.Test.YtjhjdiaomnpkmaaDoorZ01
import Derived.Test.YtjhjdiaomnpkmaaDoorZ02
import Derived.Test.YtjhjdiaomnpkmaaDoorZ03
import Derived.Test.YtjhjdiaomnpkmaaDoorZ04
import Derived.Test.YtjhjdiaomnpkmaaDoorZ06
import Derived.Test.YtjhjdiaomnpkmaaDoorZ07
import Derived.Test.YtjhjdiaomnpkmaaDoorZ11
import Derived.Test.YtjhjdiaomnpkmaaDoorZ12
namespace Go.Proofs.YtjhjdiaomnpkmaaDoor
open Go.RowKit Go.Lib
set_option linter.unusedVariables false
set_option linter.unusedSimpArgs false
set_option maxRecDepth 100000 in
set_option maxHeartbeats 2000000 in
theorem pcatch_panicking (px pe pa : Nat) (c p : Int) (w : World) (o : List PanicEntry) {x0 x1 x2 x3 e0 a0 : Value} (hx : Bk w px 46 #[x0, x1, x2, x3]) (he : Bk w pe 40 #[e0]) (ha : Bk w pa 3 #[a0]) (h1 : px ≠ pe) (h2 : px ≠ pa) (h3 : pe ≠ pa) :
    CallsD Tryd.prog 28 #[.pointer (some ⟨px, 0, none⟩), .pointer (some ⟨pe, 0, none⟩), .pointer (some ⟨pa, 0, none⟩)] (.panicking ({ v := .iface 67 (.agg #[.int .i64 c, .int .i64 p]), recovered := false } :: o)) w fun e u' w' =>
      e = .returned (.tuple #[]) ∧ u' = .panicking ({ v := .iface 67 (.agg #[.int .i64 c, .int .i64 p]), recovered := true } :: o) ∧
        Bk w' px 46 #[.int .i64 0, .int .i64 0, .string ⟨#[]⟩, .slice none 0 0] ∧ Bk w' pe 40 #[.int .i64 c] ∧ Bk w' pa 3 #[.int .i64 p] ∧ w.heap.size ≤ w'.heap.size ∧ (w'.os = w.os ∧ w'.tape = w.tape ∧ w'.output = w.output) ∧ ∀ q, q < w.heap.size → q ≠ px → q ≠ pe → q ≠ pa → w'.heap[q]? = w.heap[q]? := by
  refine callsD_of_wpS Tryd.func28 rfl fun c₀ cs hu => ?_
  have hta : ∀ w : World, (Instr.typeAssert (.iface 67 (.agg #[.int .i64 c, .int .i64 p])) 20 67 true).run Tryd.prog w = .ok (.tuple #[.agg #[.int .i64 c, .int .i64 p], .bool true]) w := fun _ => by rfl
  change Code.wpS _ _ _ { tmps := #[.pointer (some ⟨px, 0, none⟩), .pointer (some ⟨pe, 0, none⟩), .pointer (some ⟨pa, 0, none⟩), undef, undef, undef, undef, undef, undef, undef, undef, undef, undef, undef, undef, undef], defers := [] } _ _
  apply wpS_seq
  apply wpS_region
  simp [wpOpsS, go_sem, recoverD, hu, Exit.thenS, hta]
  apply wpS_seq
  apply wpS_region
  simp [wpOpsS, go_sem, Exit.thenS]
  refine wpS_cond (t := true) (by simp [Act.eval]) ?_
  simp only [if_true]
  refine wpS_of_wp ?_
  have HB := Lib.hid (Bk.new w 67 #[.int .i64 c, .int .i64 p])
  have hxl := hx.lt
  have hel := he.lt
  have hal := ha.lt
  obtain ⟨W, hW⟩ : ∃ W, w.alloc (.cells #[.int .i64 c, .int .i64 p] 67) = W := ⟨_, rfl⟩
  have HW := Lib.hid hW
  have HX := Lib.hid (hx.alloc (.cells #[.int .i64 c, .int .i64 p] 67))
  have HE := Lib.hid (he.alloc (.cells #[.int .i64 c, .int .i64 p] 67))
  have HA := Lib.hid (ha.alloc (.cells #[.int .i64 c, .int .i64 p] 67))
  rw [hW] at HB HX HE HA ⊢
  clear hW hx he ha
  have n1 : px ≠ w.heap.size := by omega
  have n2 : pe ≠ w.heap.size := by omega
  have n3 : pa ≠ w.heap.size := by omega
  refine wp_region_held_drew (S := fun w' => w'.cell? ⟨w.heap.size, 0, none⟩ = some (.int .i64 c) ∧ w'.cell? ⟨w.heap.size, 1, none⟩ = some (.int .i64 p)) (by kernel_rfl) ⟨HB.out.drew.two.1.1, HB.out.drew.two.1.2⟩ (fun hHeld => ?_)
  refine held_take (i := 0) (v := ?_) (some 11) rfl rfl (by kernel_rfl) (by kernel_rfl) (by kernel_rfl) (fun _ _ _ h => h) (Or.inl ⟨by rfl, ?_⟩) hHeld ?_
  rotate_left 1
  · rintro w' ⟨s0, s1⟩; go_simp; try with_reducible rfl
  try simp only [Act.put, List.setIfInBounds_toArray, List.set_cons_zero, List.set_cons_succ]
  refine held_take (i := 1) (v := ?_) (some 12) rfl rfl (by kernel_rfl) (by kernel_rfl) (by kernel_rfl) (fun _ _ _ h => h) (Or.inl ⟨by rfl, ?_⟩) hHeld ?_
  rotate_left 1
  · rintro w' ⟨s0, s1⟩; go_simp; try with_reducible rfl
  try simp only [Act.put, List.setIfInBounds_toArray, List.set_cons_zero, List.set_cons_succ]
  refine held_take (i := 3) (v := ?_) (some 14) rfl rfl (by kernel_rfl) (by kernel_rfl) (by kernel_rfl) (fun _ _ _ h => h) (Or.inl ⟨by rfl, ?_⟩) hHeld ?_
  rotate_left 1
  · rintro w' ⟨s0, s1⟩; go_simp; try with_reducible rfl
  try simp only [Act.put, List.setIfInBounds_toArray, List.set_cons_zero, List.set_cons_succ]
  refine held_take (i := 2) (v := ?_) (some 13) rfl rfl (by kernel_rfl) (by kernel_rfl) (by kernel_rfl) (fun _ _ _ h => h) (Or.inl ⟨by rfl, ?_⟩) hHeld ?_
  rotate_left 1
  · rintro w' ⟨s0, s1⟩; go_simp; try with_reducible rfl
  try simp only [Act.put, List.setIfInBounds_toArray, List.set_cons_zero, List.set_cons_succ]
  refine held_take (i := 4) (v := ?_) (some 15) rfl rfl (by kernel_rfl) (by kernel_rfl) (by kernel_rfl) (fun _ _ _ h => h) (Or.inl ⟨by rfl, ?_⟩) hHeld ?_
  rotate_left 1
  · rintro w' ⟨s0, s1⟩; go_simp; try with_reducible rfl
  try simp only [Act.put, List.setIfInBounds_toArray, List.set_cons_zero, List.set_cons_succ]
  have HX0 := Lib.hid HX.out
  obtain ⟨⟨b0, b1, b2, b3⟩, u0, u1, u2, u3⟩ := HX.out.four
  have HB5 := Lib.hid (((((HB.out.far (p := ⟨px, 0, none⟩) (Ne.symm n1) (.int .i64 0)).far (p := ⟨px, 1, none⟩) (Ne.symm n1) (.int .i64 0)).far (p := ⟨px, 2, none⟩) (Ne.symm n1) (.string ⟨#[]⟩)).far (p := ⟨px, 3, none⟩) (Ne.symm n1) (.slice none 0 0)))
  have HX5 := Lib.hid (HX0.out.put4 (.int .i64 0) (.int .i64 0) (.string ⟨#[]⟩) (.slice none 0 0))
  have gp5 := put4_grown W px (.int .i64 0) (.int .i64 0) (.string ⟨#[]⟩) (.slice none 0 0)
  refine held_one (j := 5) (by kernel_rfl) rfl (fun K hK => ?_)
  try simp only [List.getElem_toArray, List.getElem_cons_succ, List.getElem_cons_zero]
  go_simp
  refine hK.out _ _ ⟨HB5.out.drew.two.1.1, HB5.out.drew.two.1.2⟩ (fun hHeld => ?_)
  clear hK K
  try simp only [Act.put, List.setIfInBounds_toArray, List.set_cons_zero, List.set_cons_succ]
  obtain ⟨W5, hW5⟩ : ∃ W', (((W.setCell ⟨px, 0, none⟩ (.int .i64 0)).setCell ⟨px, 1, none⟩ (.int .i64 0)).setCell ⟨px, 2, none⟩ (.string ⟨#[]⟩)).setCell ⟨px, 3, none⟩ (.slice none 0 0) = W' := ⟨_, rfl⟩
  rw [hW5] at HB5 HX5 gp5 hHeld ⊢
  have HW5 := Lib.hid hW5
  clear hW5 b0 b1 b2 b3 u0 u1 u2 u3
  have HE5 := Lib.hid (HE.out.grown gp5 (fun e => by injection e; omega))
  have HA5 := Lib.hid (HA.out.grown gp5 (fun e => by injection e; omega))
  have c5 := HE5.out.cell 0
  have f5 := HE5.out.frozen 0
  simp only [List.getElem?_toArray, List.getElem?_cons_zero] at c5
  refine held_one (j := 6) (by kernel_rfl) rfl (fun K hK => ?_)
  try simp only [List.getElem_toArray, List.getElem_cons_succ, List.getElem_cons_zero]
  go_simp
  refine hK.out _ _ ⟨((HB5.out.far (p := ⟨pe, 0, none⟩) (Ne.symm n2) (.int .i64 c)).drew.two).1.1, ((HB5.out.far (p := ⟨pe, 0, none⟩) (Ne.symm n2) (.int .i64 c)).drew.two).1.2⟩ (fun hHeld => ?_)
  clear hK K
  try simp only [Act.put, List.setIfInBounds_toArray, List.set_cons_zero, List.set_cons_succ]
  have gp6 := set_grown W5 pe 0 (.int .i64 c)
  have HA6 := Lib.hid (HA5.out.grown gp6 (fun e => by injection e; omega))
  have c6 := HA6.out.cell 0
  have f6 := HA6.out.frozen 0
  simp only [List.getElem?_toArray, List.getElem?_cons_zero] at c6
  refine held_one (j := 7) (by kernel_rfl) rfl (fun K hK => ?_)
  try simp only [List.getElem_toArray, List.getElem_cons_succ, List.getElem_cons_zero]
  go_simp
  refine hK.out _ _ ⟨(((HB5.out.far (p := ⟨pe, 0, none⟩) (Ne.symm n2) (.int .i64 c)).far (p := ⟨pa, 0, none⟩) (Ne.symm n3) (.int .i64 p)).drew.two).1.1, (((HB5.out.far (p := ⟨pe, 0, none⟩) (Ne.symm n2) (.int .i64 c)).far (p := ⟨pa, 0, none⟩) (Ne.symm n3) (.int .i64 p)).drew.two).1.2⟩ (fun hHeld => ?_)
  clear hK K
  try simp only [Act.put, List.setIfInBounds_toArray, List.set_cons_zero, List.set_cons_succ]
  refine wpAnyH_done (by kernel_rfl) ?_ _
  have gp7 := set_grown (W5.setCell ⟨pe, 0, none⟩ (.int .i64 c)) pa 0 (.int .i64 p)
  refine ⟨rfl, _, rfl, _, by simp [results, Tryd.results28], rfl, rfl, ?_, ?_, ?_, ?_, ?_, ?_⟩
  · exact ((HX5.out.far (p := ⟨pe, 0, none⟩) (by simpa using h1) (.int .i64 c)).far (p := ⟨pa, 0, none⟩) (by simpa using h2) (.int .i64 p)).drew
  · exact ((HE5.out.set_ 0 (.int .i64 c)).far (p := ⟨pa, 0, none⟩) (by simpa using h3) (.int .i64 p)).drew
  · exact (HA6.out.set_ 0 (.int .i64 p)).drew
  · have q5 := gp5.size
    have q6 := gp6.size
    have q7 := gp7.size
    have q8 : W.heap.size = w.heap.size + 1 := by rw [← HW.out]; exact World.size_alloc ..
    exact Nat.le_trans (by omega) (show ((W5.setCell ⟨pe, 0, none⟩ (.int .i64 c)).setCell ⟨pa, 0, none⟩ (.int .i64 p)).heap.size ≤ _ from Nat.le_refl _)
  · have e0 : W.os = w.os ∧ W.output = w.output := by rw [← HW.out]; exact ⟨rfl, rfl⟩
    refine ⟨?_, ?_, ?_⟩
    · exact gp7.os.trans (gp6.os.trans (gp5.os.trans e0.1))
    · exact gp7.tape.trans (gp6.tape.trans (gp5.tape.trans (by rw [← HW.out]; rfl)))
    · exact gp7.output.trans (gp6.output.trans (gp5.output.trans e0.2))
  · intro q hq a1 a2 a3
    have q8 : W.heap.size = w.heap.size + 1 := by rw [← HW.out]; exact World.size_alloc ..
    have q5 := gp5.size
    have q6 := gp6.size
    refine Eq.trans (show _ = ((W5.setCell ⟨pe, 0, none⟩ (.int .i64 c)).setCell ⟨pa, 0, none⟩ (.int .i64 p)).heap[q]? from rfl) ?_
    refine (gp7.block q (by omega) (fun e => by injection e; omega)).trans ((gp6.block q (by omega) (fun e => by injection e; omega)).trans ((gp5.block q (by omega) (fun e => by injection e; omega)).trans ?_))
    rw [← HW.out]
    exact Below.heap_alloc w _ q hq
set_option maxRecDepth 100000 in
set_option maxHeartbeats 2000000 in
theorem pcatch_idle (px pe pa : Nat) (w : World) :
    CallsD Tryd.prog 28 #[.pointer (some ⟨px, 0, none⟩), .pointer (some ⟨pe, 0, none⟩), .pointer (some ⟨pa, 0, none⟩)] .returning w fun e u' w' => e = .returned (.tuple #[]) ∧ u' = .returning ∧ w' = w.alloc (.cells #[.int .i64 0, .int .i64 0] 67) := by
  refine callsD_of_wpS Tryd.func28 rfl fun c₀ cs hu => ?_
  have hta : ∀ w : World, (Instr.typeAssert .nilIface 20 67 true).run Tryd.prog w = .ok (.tuple #[.agg #[.int .i64 0, .int .i64 0], .bool false]) w := fun _ => by rfl
  change Code.wpS _ _ _ { tmps := #[.pointer (some ⟨px, 0, none⟩), .pointer (some ⟨pe, 0, none⟩), .pointer (some ⟨pa, 0, none⟩), undef, undef, undef, undef, undef, undef, undef, undef, undef, undef, undef, undef, undef], defers := [] } _ _
  apply wpS_seq
  apply wpS_region
  simp [wpOpsS, go_sem, recoverD, hu, Exit.thenS, hta]
  apply wpS_seq
  apply wpS_region
  simp [wpOpsS, go_sem, Exit.thenS]
  refine wpS_cond (t := false) (by simp [Act.eval]) ?_
  simp only [Bool.false_eq_true, if_false]
  refine wpS_of_wp (wp_skip ?_)
  cases c₀
  simp_all [bodyPostS, results, Tryd.results28]
end Go.Proofs.YtjhjdiaomnpkmaaDoor

namespace Go.Proofs.YtjhjdiaomnpkmaaDoor
open Go.RowKit Go.Lib
set_option linter.unusedVariables false
set_option linter.unusedSimpArgs false
theorem exprOk : ∀ d, d ≤ 32 → ExprOk d := by
  intro d
  induction d with
  | zero =>
    intro _ V g a ts w had h
    have hA := h.V.1.self.alloc (.cells #[.int .i64 0, .int .i64 0, .string ⟨#[]⟩, .slice none 0 0] 46)
    have HB := Lib.hid (pbegin_not V g a ts _ (h.rel hA) (by omega))
    have HG := Lib.hid (grown_rel (some g) hA)
    have H0 := Lib.hid (exprT_deep false ts)
    have H1 := Lib.hid (exprT_deep true ts)
    clear h hA
    constructor
    · go_enter Tryd.func29, Tryd.ntmps29
      go_wp2_with (go_at_call 38; (with_reducible refine HB.out.mono ?_); rintro e w2 ⟨rfl, g2⟩)
      exact ⟨rfl, ExPost.no H0.out rfl (grown_trans HG.out g2)⟩
    · go_enter Tryd.func62, Tryd.ntmps62
      go_wp2_with (go_at_call 38; (with_reducible refine HB.out.mono ?_); rintro e w2 ⟨rfl, g2⟩)
      exact ⟨rfl, ExPost.no H1.out rfl (grown_trans HG.out g2)⟩
  | succ d ih =>
    intro hd V g a ts w had h
    exact ⟨pexpr_succ d (ih (by omega)) V g a ts w had h, pcondition_succ d (ih (by omega)) V g a ts w had h⟩
/-- What a strategy of tokens, or of a text, is. -/
def StrPost (r : Except (Int × Int) Ex) (w0 : World) (lb : Nat) (e : Ending) (w' : World) : Prop := match r with
  | .ok x => ∃ v : El, e = .returned (.tuple #[EV v, .int .i64 0, .int .i64 0]) ∧ ExAt (fun k => lb ≤ k) w' v x ∧ Rel w0 w'
  | .error E => e = .returned (.tuple #[EV (0, 0, [], none, 0, 0), .int .i64 E.1, .int .i64 E.2]) ∧ Rel w0 w'
theorem StrPost.yes {r : Except (Int × Int) Ex} {lb : Nat} {w0 w' : World} {e : Ending} {x : Ex} (h : r = .ok x) (hv : ∃ v : El, e = .returned (.tuple #[EV v, .int .i64 0, .int .i64 0]) ∧ ExAt (fun k => lb ≤ k) w' v x ∧ Rel w0 w') : StrPost r w0 lb e w' := by subst h; exact hv
theorem StrPost.no {r : Except (Int × Int) Ex} {lb : Nat} {w0 w' : World} {e : Ending} {E : Int × Int} (h : r = .error E) (hv : e = .returned (.tuple #[EV (0, 0, [], none, 0, 0), .int .i64 E.1, .int .i64 E.2]) ∧ Rel w0 w') : StrPost r w0 lb e w' := by subst h; exact hv
theorem strat_world {A : Option Addr} {n c : Nat} {ts : List Tok} {w0 w : World} (hn : ts.length = n) (hf : FineP ts) (hr : Rel w0 w) (hT : ToksAt w A ts) (hc : n ≤ c) (hc' : c ≤ 9223372036854775807) :
    ∃ W : World, W = ((((w.alloc (.cells #[.int .i64 0, .int .i64 0, .string ⟨#[]⟩, .slice none 0 0] 46)).alloc (.cells #[.int .i64 0] 40)).alloc (.cells #[.int .i64 0] 3)).alloc (.cells #[.slice A n c, .int .i64 0] 70)) ∧ StP w W (w.heap.size + 1 + 1 + 1) ts 0 ∧
      Bk W w.heap.size 46 #[.int .i64 0, .int .i64 0, .string ⟨#[]⟩, .slice none 0 0] ∧ Bk W (w.heap.size + 1) 40 #[.int .i64 0] ∧ Bk W (w.heap.size + 1 + 1) 3 #[.int .i64 0] ∧ Rel w0 W ∧ w0.heap.size ≤ w.heap.size ∧ w.heap.size + 1 + 1 + 1 < W.heap.size := by
  subst hn
  have R1 := hr.self.alloc (.cells #[.int .i64 0, .int .i64 0, .string ⟨#[]⟩, .slice none 0 0] 46)
  have R2 := R1.self.alloc (.cells #[.int .i64 0] 40)
  have R3 := R2.self.alloc (.cells #[.int .i64 0] 3)
  have R4 := R3.self.alloc (.cells #[.slice A ts.length c, .int .i64 0] 70)
  have z1 : (w.alloc (.cells #[.int .i64 0, .int .i64 0, .string ⟨#[]⟩, .slice none 0 0] 46)).heap.size = w.heap.size + 1 := World.size_alloc ..
  have z2 : ((w.alloc (.cells #[.int .i64 0, .int .i64 0, .string ⟨#[]⟩, .slice none 0 0] 46)).alloc (.cells #[.int .i64 0] 40)).heap.size = w.heap.size + 1 + 1 := by rw [World.size_alloc, z1]
  have z3 : (((w.alloc (.cells #[.int .i64 0, .int .i64 0, .string ⟨#[]⟩, .slice none 0 0] 46)).alloc (.cells #[.int .i64 0] 40)).alloc (.cells #[.int .i64 0] 3)).heap.size = w.heap.size + 1 + 1 + 1 := by rw [World.size_alloc, z2]
  have b1 := Bk.new w 46 #[.int .i64 0, .int .i64 0, .string ⟨#[]⟩, .slice none 0 0]
  have b2 := Bk.new (w.alloc (.cells #[.int .i64 0, .int .i64 0, .string ⟨#[]⟩, .slice none 0 0] 46)) 40 #[.int .i64 0]
  have b3 := Bk.new ((w.alloc (.cells #[.int .i64 0, .int .i64 0, .string ⟨#[]⟩, .slice none 0 0] 46)).alloc (.cells #[.int .i64 0] 40)) 3 #[.int .i64 0]
  have b4 := Bk.new (((w.alloc (.cells #[.int .i64 0, .int .i64 0, .string ⟨#[]⟩, .slice none 0 0] 46)).alloc (.cells #[.int .i64 0] 40)).alloc (.cells #[.int .i64 0] 3)) 70 #[.slice A ts.length c, .int .i64 0]
  rw [z1] at b2
  rw [z2] at b3
  rw [z3] at b4
  refine ⟨_, rfl, ⟨A, c, ((R1.trans R2).trans R3).trans R4, by omega, hT, hf, hc, hc', by decide, b4⟩, b1.rel ((R2.trans R3).trans R4), b2.rel (R3.trans R4), b3.rel R4, (((hr.trans R1).trans R2).trans R3).trans R4, hr.size, by rw [World.size_alloc, z3]; omega⟩
set_option maxRecDepth 100000 in
set_option maxHeartbeats 4000000 in
theorem pstrat_any (A : Option Addr) (c : Nat) (ts : List Tok) (hf : FineP ts) (hc : ts.length ≤ c) (hc' : c ≤ 9223372036854775807) (w0 w : World) (hr : Rel w0 w) (hT : ToksAt w A ts) :
    Calls Tryd.prog 25 #[.slice A ts.length c] w (StrPost (stratT ts) w0 w.heap.size) := by
  have hmf : ∀ (fn : Fn) (first cap : Array Value) (w : World), (Instr.makeFunc fn first cap).run Tryd.prog w = .ok (.func fn first cap) w := fun _ _ _ _ => rfl
  obtain ⟨n, hn⟩ : ∃ n, ts.length = n := ⟨_, rfl⟩
  rw [hn] at hc ⊢
  obtain ⟨W, hW, hs, hbx, hbe, hba, hrW, h0w, hgW⟩ := strat_world hn hf hr hT hc hc'
  have HW := Lib.hid hW
  have HS := Lib.hid hs
  have HBX := Lib.hid hbx
  have HBE := Lib.hid hbe
  have HBA := Lib.hid hba
  have HRW := Lib.hid hrW
  clear hW hs hbx hbe hba hrW hf hr hT hn
  cases hx : exprT 32 false ts with
  | error E =>
    have HSt := Lib.hid (show stratT ts = .error E by unfold stratT; rw [hx])
    have HC := Lib.hid (ex_no (exprOk 32 (Nat.le_refl _)) (by omega) HS.out hx)
    clear hx
    go_enter_defers Tryd.func25, Tryd.ntmps25
    go_wp2_with (go_at_call 29; rw [← HW.out]; (with_reducible refine HC.out.mono ?_); rintro e w2 ⟨rfl, g2⟩)
    refine leaves_cons (f := 28) (args := #[.pointer (some ⟨w.heap.size, 0, none⟩), .pointer (some ⟨w.heap.size + 1, 0, none⟩), .pointer (some ⟨w.heap.size + 1 + 1, 0, none⟩)]) (by simp) (by simp [go_sem]) ?_
    refine (pcatch_panicking w.heap.size (w.heap.size + 1) (w.heap.size + 1 + 1) E.1 E.2 w2 [] (HBX.out.grown g2 (fun e => by injection e; omega)) (HBE.out.grown g2 (fun e => by injection e; omega)) (HBA.out.grown g2 (fun e => by injection e; omega)) (by omega) (by omega) (by omega)).mono ?_
    rintro e u' w3 ⟨rfl, rfl, b1, b2, b3, hs3, ⟨o1, o2, o3⟩, hb3⟩
    have R2 := HRW.out.grown g2 (fun k e => by cases e; omega)
    have R3 : Rel w0 w3 := ⟨R2.1, ⟨o1.trans R2.2.os, o2.trans R2.2.tape, o3.trans R2.2.output, Nat.le_trans R2.2.size hs3, fun k hk => (hb3 k (by have := R2.2.size; omega) (by omega) (by omega) (by omega)).trans (R2.2.block k hk)⟩⟩
    obtain ⟨⟨y0, y1, y2, y3⟩, _⟩ := b1.four
    have y4 := b2.cell 0
    have y5 := b3.cell 0
    simp only [List.getElem?_toArray, List.getElem?_cons_zero] at y4 y5
    refine ⟨_, by simp [results, Tryd.results25, go_sem, y0, y1, y2, y3, y4, y5]; rfl, StrPost.no HSt.out ⟨rfl, R3⟩⟩
  | ok q =>
    obtain ⟨x, r⟩ := q
    have HC := Lib.hid (ex_yes (exprOk 32 (Nat.le_refl _)) (by omega) HS.out hx)
    have hP : ∀ (w2 : World) (v : El), W.grownBy w2 (some (w.heap.size + 1 + 1 + 1)) → ExAt (fun k => W.heap.size ≤ k) w2 v x → StP w w2 (w.heap.size + 1 + 1 + 1) r 0 → ∀ w3 : World, (((w2.setCell ⟨w.heap.size, 0, none⟩ (.int .i64 v.1)).setCell ⟨w.heap.size, 1, none⟩ (.int .i64 v.2.1)).setCell ⟨w.heap.size, 2, none⟩ (.string (B v.2.2.1))).setCell ⟨w.heap.size, 3, none⟩ (.slice v.2.2.2.1 v.2.2.2.2.1 v.2.2.2.2.2) = w3 →
        ExAt (fun k => W.heap.size ≤ k) w3 v x ∧ StP w w3 (w.heap.size + 1 + 1 + 1) r 0 ∧ Rel w0 w3 ∧ Bk w3 w.heap.size 46 #[.int .i64 v.1, .int .i64 v.2.1, .string (B v.2.2.1), .slice v.2.2.2.1 v.2.2.2.2.1 v.2.2.2.2.2] ∧ Bk w3 (w.heap.size + 1) 40 #[.int .i64 0] ∧ Bk w3 (w.heap.size + 1 + 1) 3 #[.int .i64 0] := fun w2 v g2 ex s2 w3 hw3 => by
      have gp := put4_grown w2 w.heap.size (.int .i64 v.1) (.int .i64 v.2.1) (.string (B v.2.2.1)) (.slice v.2.2.2.1 v.2.2.2.2.1 v.2.2.2.2.2)
      have hb := (HBX.out.grown g2 (fun e => by injection e; omega)).put4 (.int .i64 v.1) (.int .i64 v.2.1) (.string (B v.2.2.1)) (.slice v.2.2.2.1 v.2.2.2.2.1 v.2.2.2.2.2)
      rw [hw3] at gp hb
      refine ⟨ex.grown gp (fun k hk => ⟨hk, fun e => by injection e; omega⟩), s2.grown gp (fun e => by injection e; omega) (fun k e => by cases e; exact Nat.le_refl _), (HRW.out.grown g2 (fun k e => by cases e; omega)).grown gp (fun k e => by cases e; exact h0w), hb, (HBE.out.grown g2 (fun e => by injection e; omega)).grown gp (fun e => by injection e; omega), (HBA.out.grown g2 (fun e => by injection e; omega)).grown gp (fun e => by injection e; omega)⟩
    have HP := Lib.hid hP
    clear hP
    by_cases h5 : (hdT r).1 = 5
    · have HSt := Lib.hid (show stratT ts = .ok x by unfold stratT; rw [hx]; simp only; unfold takeT; rw [if_pos ⟨h5, .inl rfl⟩])
      have HEn := Lib.hid (fun (w3 : World) (h : StP w w3 (w.heap.size + 1 + 1 + 1) r 0) => pend_yes w (w.heap.size + 1 + 1 + 1) 0 r w3 h h5)
      clear hx h5
      go_enter_defers Tryd.func25, Tryd.ntmps25
      go_wp2_with (first
        | (go_at_call 29; rw [← HW.out]; (with_reducible refine HC.out.mono ?_); rintro e w2 ⟨v, rfl, ex, s2, g2⟩; obtain ⟨⟨b0, b1, b2, b3⟩, u0, u1, u2, u3⟩ := (HBX.out.grown g2 (fun e => by injection e; omega)).four; obtain ⟨w3, hw3⟩ : ∃ w3, (((w2.setCell ⟨w.heap.size, 0, none⟩ (.int .i64 v.1)).setCell ⟨w.heap.size, 1, none⟩ (.int .i64 v.2.1)).setCell ⟨w.heap.size, 2, none⟩ (.string (B v.2.2.1))).setCell ⟨w.heap.size, 3, none⟩ (.slice v.2.2.2.1 v.2.2.2.2.1 v.2.2.2.2.2) = w3 := ⟨_, rfl⟩; have HP3 := Lib.hid (HP.out w2 v g2 ex s2 w3 hw3); have HW3 := Lib.hid hw3; clear hw3 ex s2 g2)
        | (go_at_call 30; rw [HW3.out]; (with_reducible refine (HEn.out _ HP3.out.2.1).mono ?_); rintro e w4 ⟨rfl, g4⟩; have G4 := Lib.hid g4; obtain ⟨⟨x0, x1, x2, x3⟩, v0, v1, v2, v3⟩ := (HP3.out.2.2.2.1.grown g4 (fun e => by injection e; omega)).four; have HBE4 := Lib.hid (HP3.out.2.2.2.2.1.grown g4 (fun e => by injection e; omega)); have HBA4 := Lib.hid (HP3.out.2.2.2.2.2.grown g4 (fun e => by injection e; omega)); have y4 := HBE4.out.cell 0; have y5 := HBA4.out.cell 0; have f4 := HBE4.out.frozen 0; have f5 := HBA4.out.frozen 0; simp only [List.getElem?_toArray, List.getElem?_cons_zero] at y4 y5; clear g4))
      have fin : ∀ w5 : World, ((((((w4.setCell ⟨w.heap.size, 0, none⟩ (.int .i64 v.1)).setCell ⟨w.heap.size, 1, none⟩ (.int .i64 v.2.1)).setCell ⟨w.heap.size, 2, none⟩ (.string (B v.2.2.1))).setCell ⟨w.heap.size, 3, none⟩ (.slice v.2.2.2.1 v.2.2.2.2.1 v.2.2.2.2.2)).setCell ⟨w.heap.size + 1, 0, none⟩ (.int .i64 0)).setCell ⟨w.heap.size + 1 + 1, 0, none⟩ (.int .i64 0)) = w5 →
          Rel w0 w5 ∧ Bk w5 w.heap.size 46 #[.int .i64 v.1, .int .i64 v.2.1, .string (B v.2.2.1), .slice v.2.2.2.1 v.2.2.2.2.1 v.2.2.2.2.2] ∧ Bk w5 (w.heap.size + 1) 40 #[.int .i64 0] ∧ Bk w5 (w.heap.size + 1 + 1) 3 #[.int .i64 0] ∧ ExAt (fun k => W.heap.size ≤ k) w5 v x := fun w5 hw5 => by
        have R4 := HP3.out.2.2.1.grown G4.out (fun k e => by cases e; omega)
        have gp := put4_grown w4 w.heap.size (.int .i64 v.1) (.int .i64 v.2.1) (.string (B v.2.2.1)) (.slice v.2.2.2.1 v.2.2.2.2.1 v.2.2.2.2.2)
        have hb := (HP3.out.2.2.2.1.grown G4.out (fun e => by injection e; omega)).put4 (.int .i64 v.1) (.int .i64 v.2.1) (.string (B v.2.2.1)) (.slice v.2.2.2.1 v.2.2.2.2.1 v.2.2.2.2.2)
        have ex4 := HP3.out.1.grown G4.out (S' := fun k => W.heap.size ≤ k) (fun k hk => ⟨hk, fun e => by injection e; omega⟩)
        obtain ⟨w6, hw6⟩ : ∃ w6, (((w4.setCell ⟨w.heap.size, 0, none⟩ (.int .i64 v.1)).setCell ⟨w.heap.size, 1, none⟩ (.int .i64 v.2.1)).setCell ⟨w.heap.size, 2, none⟩ (.string (B v.2.2.1))).setCell ⟨w.heap.size, 3, none⟩ (.slice v.2.2.2.1 v.2.2.2.2.1 v.2.2.2.2.2) = w6 := ⟨_, rfl⟩
        rw [hw6] at gp hb hw5
        have g1 := set_grown w6 (w.heap.size + 1) 0 (.int .i64 0)
        have g2 := set_grown (w6.setCell ⟨w.heap.size + 1, 0, none⟩ (.int .i64 0)) (w.heap.size + 1 + 1) 0 (.int .i64 0)
        rw [hw5] at g2
        refine ⟨((R4.grown gp (fun k e => by cases e; exact h0w)).grown g1 (fun k e => by cases e; omega)).grown g2 (fun k e => by cases e; omega), (hb.grown g1 (fun e => by injection e; omega)).grown g2 (fun e => by injection e; omega), ?_, ?_, ?_⟩
        · exact ((HBE4.out.grown gp (fun e => by injection e; omega)).set_ 0 (.int .i64 0) : Bk (w6.setCell ⟨w.heap.size + 1, 0, none⟩ (.int .i64 0)) _ _ _).grown g2 (fun e => by injection e; omega)
        · rw [← hw5]
          exact ((HBA4.out.grown gp (fun e => by injection e; omega)).grown g1 (fun e => by injection e; omega)).set_ 0 (.int .i64 0)
        · exact ((ex4.grown gp (S' := fun k => W.heap.size ≤ k) (fun k hk => ⟨hk, fun e => by injection e; omega⟩)).grown g1 (S' := fun k => W.heap.size ≤ k) (fun k hk => ⟨hk, fun e => by injection e; omega⟩)).grown g2 (fun k hk => ⟨hk, fun e => by injection e; omega⟩)
      obtain ⟨w5, hw5⟩ : ∃ w5, ((((((w4.setCell ⟨w.heap.size, 0, none⟩ (.int .i64 v.1)).setCell ⟨w.heap.size, 1, none⟩ (.int .i64 v.2.1)).setCell ⟨w.heap.size, 2, none⟩ (.string (B v.2.2.1))).setCell ⟨w.heap.size, 3, none⟩ (.slice v.2.2.2.1 v.2.2.2.2.1 v.2.2.2.2.2)).setCell ⟨w.heap.size + 1, 0, none⟩ (.int .i64 0)).setCell ⟨w.heap.size + 1 + 1, 0, none⟩ (.int .i64 0)) = w5 := ⟨_, rfl⟩
      obtain ⟨R5, k1, k2, k3, k4⟩ := fin w5 hw5
      rw [hw5]
      clear fin hw5
      refine leaves_cons (f := 28) (args := #[.pointer (some ⟨w.heap.size, 0, none⟩), .pointer (some ⟨w.heap.size + 1, 0, none⟩), .pointer (some ⟨w.heap.size + 1 + 1, 0, none⟩)]) (by simp) (by simp [go_sem]) ?_
      refine (pcatch_idle w.heap.size (w.heap.size + 1) (w.heap.size + 1 + 1) w5).mono ?_
      rintro e u' w7 ⟨rfl, rfl, rfl⟩
      have R7 := R5.self.alloc (.cells #[.int .i64 0, .int .i64 0] 67)
      obtain ⟨⟨z0, z1, z2, z3⟩, _⟩ := (k1.rel R7).four
      have z4 := (k2.rel R7).cell 0
      have z5 := (k3.rel R7).cell 0
      have k7 := k4.rel R7
      have R8 := R5.trans R7
      obtain ⟨w7, hw7⟩ : ∃ w7, w5.alloc (.cells #[.int .i64 0, .int .i64 0] 67) = w7 := ⟨_, rfl⟩
      simp only [List.getElem?_toArray, List.getElem?_cons_zero] at z4 z5
      rw [hw7] at z0 z1 z2 z3 z4 z5 k7 R8 ⊢
      refine ⟨.tuple #[EV v, .int .i64 0, .int .i64 0], by simp [results, Tryd.results25, go_sem, z0, z1, z2, z3, z4, z5], StrPost.yes HSt.out ⟨v, rfl, k7.weak fun k hk => by omega, R8⟩⟩
    · have HSt := Lib.hid (show stratT ts = .error (80, atT r) by unfold stratT; rw [hx]; simp only; unfold takeT; rw [if_neg (fun hh => h5 hh.1)])
      have HEn := Lib.hid (fun (w3 : World) (h : StP w w3 (w.heap.size + 1 + 1 + 1) r 0) => pend_not w (w.heap.size + 1 + 1 + 1) 0 r w3 h h5)
      clear hx h5
      go_enter_defers Tryd.func25, Tryd.ntmps25
      go_wp2_with (first
        | (go_at_call 29; rw [← HW.out]; (with_reducible refine HC.out.mono ?_); rintro e w2 ⟨v, rfl, ex, s2, g2⟩; obtain ⟨⟨b0, b1, b2, b3⟩, u0, u1, u2, u3⟩ := (HBX.out.grown g2 (fun e => by injection e; omega)).four; obtain ⟨w3, hw3⟩ : ∃ w3, (((w2.setCell ⟨w.heap.size, 0, none⟩ (.int .i64 v.1)).setCell ⟨w.heap.size, 1, none⟩ (.int .i64 v.2.1)).setCell ⟨w.heap.size, 2, none⟩ (.string (B v.2.2.1))).setCell ⟨w.heap.size, 3, none⟩ (.slice v.2.2.2.1 v.2.2.2.2.1 v.2.2.2.2.2) = w3 := ⟨_, rfl⟩; have HP3 := Lib.hid (HP.out w2 v g2 ex s2 w3 hw3); have HW3 := Lib.hid hw3; clear hw3 ex s2 g2)
        | (go_at_call 30; rw [HW3.out]; (with_reducible refine (HEn.out _ HP3.out.2.1).mono ?_); rintro e w4 ⟨rfl, g4⟩))
      refine leaves_cons (f := 28) (args := #[.pointer (some ⟨w.heap.size, 0, none⟩), .pointer (some ⟨w.heap.size + 1, 0, none⟩), .pointer (some ⟨w.heap.size + 1 + 1, 0, none⟩)]) (by simp) (by simp [go_sem]) ?_
      refine (pcatch_panicking w.heap.size (w.heap.size + 1) (w.heap.size + 1 + 1) 80 (atT r) w4 [] (HP3.out.2.2.2.1.grown g4 (fun e => by injection e; omega)) (HP3.out.2.2.2.2.1.grown g4 (fun e => by injection e; omega)) (HP3.out.2.2.2.2.2.grown g4 (fun e => by injection e; omega)) (by omega) (by omega) (by omega)).mono ?_
      rintro e u' w5 ⟨rfl, rfl, b1, b2, b3, hs3, ⟨o1, o2, o3⟩, hb3⟩
      have R2 := HP3.out.2.2.1.grown g4 (fun k e => by cases e; omega)
      have hz4 : w.heap.size + 1 + 1 < w4.heap.size := by have := (HP3.out.2.2.2.2.2.grown g4 (fun e => by injection e; omega)).lt; omega
      have R3 : Rel w0 w5 := ⟨R2.1, ⟨o1.trans R2.2.os, o2.trans R2.2.tape, o3.trans R2.2.output, Nat.le_trans R2.2.size hs3, fun k hk => (hb3 k (by omega) (by omega) (by omega) (by omega)).trans (R2.2.block k hk)⟩⟩
      obtain ⟨⟨y0, y1, y2, y3⟩, _⟩ := b1.four
      have y4 := b2.cell 0
      have y5 := b3.cell 0
      simp only [List.getElem?_toArray, List.getElem?_cons_zero] at y4 y5
      refine ⟨_, by simp [results, Tryd.results25, go_sem, y0, y1, y2, y3, y4, y5]; rfl, StrPost.no HSt.out ⟨rfl, R3⟩⟩
end Go.Proofs.YtjhjdiaomnpkmaaDoor

namespace Go.Proofs.YtjhjdiaomnpkmaaDoor
open Go.RowKit
open Go.Lib
set_option linter.unusedVariables false
set_option linter.unusedSimpArgs false
attribute [local go_sem] Oper.semAt_some
theorem put_ne (W : World) (k j : Nat) (o : Obj) (h : j ≠ k) : (W.putObj k o).heap[j]? = W.heap[j]? := World.putObj_heap_other h
theorem rel_put {w W : World} (h : Rel w W) {k : Nat} (hk : w.heap.size ≤ k) (o : Obj) : Rel w (W.putObj k o) := h.grown (grownBy_putObj' W k o) (fun j e => by cases e; exact hk)
theorem heap_rel {W W' : World} (h : Rel W W') {k : Nat} {o : Obj} (hk : W.heap[k]? = some o) : W'.heap[k]? = some o := by
  have hl : k < W.heap.size := (Array.getElem?_eq_some_iff.1 hk).1
  exact (h.2.block k hl).trans hk
/-- How the body of a round may be left: the two blocks of the loop lie as they lay. -/
def roundEnds (d e : Nat) (I : World → Prop) (Ix : World → Prop) (W : World) : Exit → Act → World → Prop
  | .normal, _, W' => (W'.heap[d]? = W.heap[d]? ∧ W'.heap[e]? = W.heap[e]?) ∧ I W'
  | .ret, _, W' => (W'.heap[d]? = W.heap[d]? ∧ W'.heap[e]? = W.heap[e]?) ∧ Ix W'
  | .exit _, _, _ => False
  | .goto _, _, _ => False
  | .panic _, _, _ => False
  | .outgrown, _, _ => False
/-- The blocks from m on that lay in W lie as they lay. -/
def Keep (m : Nat) (W W' : World) : Prop := W.heap.size ≤ W'.heap.size ∧ ∀ k, m ≤ k → k < W.heap.size → W'.heap[k]? = W.heap[k]?
theorem Keep.trans {m : Nat} {W W' W'' : World} (h : Keep m W W') (h' : Keep m W' W'') : Keep m W W'' :=
  ⟨Nat.le_trans h.1 h'.1, fun k hk hl => (h'.2 k hk (Nat.lt_of_lt_of_le hl h.1)).trans (h.2 k hk hl)⟩
theorem Keep.rel {m : Nat} {W W' : World} (h : Rel W W') : Keep m W W' := ⟨h.size, fun k _ hl => h.2.block k hl⟩
theorem Keep.put {m : Nat} (W : World) {j : Nat} (hj : j < m) (o : Obj) : Keep m W (W.putObj j o) :=
  ⟨by rw [World.putObj_size]; exact Nat.le_refl _, fun k hk _ => World.putObj_heap_other (by omega)⟩
theorem Keep.set {m : Nat} (W : World) {j : Nat} (hj : j < m) (i : Nat) (v : Value) : Keep m W (W.setCell ⟨j, i, none⟩ v) :=
  ⟨by rw [World.size_setCell]; exact Nat.le_refl _, fun k hk _ => Below.heap_setCell W ⟨j, i, none⟩ v _ (by simp only; omega)⟩
theorem Keep.bk {m : Nat} {W W' : World} (h : Keep m W W') {g : Nat} {t : TypeId} {cs : Array Value} (hb : Bk W g t cs) (hg : m ≤ g) : Bk W' g t cs := (h.2 g hg (Bk.lt hb)).trans hb
/-- An iterator's contract: what it yields, one behind the other, with whatever J keeps of the world ('Cap': what the iterator itself wants of it); J's number: from there on all blocks are the iterator's own till it yields again. -/
def IterOk (n : Nat) (f : FuncId) (caps : Array Value) (ys : List (Array Value)) (Cap : World → Prop) : Prop :=
  ∀ (l : Nat) (J : List (Array Value) → Nat → World → Prop) (Jx : World → Prop),
    (∀ pre m W W', J pre m W → Rel W W' → J pre m W') →
    (∀ pre m W, J pre m W → Cap W ∧ m ≤ W.heap.size) →
    (∀ pre m y W, J pre m W → (∃ rest, ys = pre ++ y :: rest) → YieldAt Fence.wide (n - 1) Tryd.prog l y W fun e W' => (e = .returned (.bool true) ∧ J (pre ++ [y]) W'.heap.size W' ∧ Keep m W W') ∨ (e = .returned (.bool false) ∧ Jx W')) →
    ∀ m W, J [] m W → CallsIn Fence.wide n Tryd.prog f (#[.func (.yield l) #[] #[]] ++ caps) W fun e W' => (∃ v, e = .returned v) ∧ ((∃ m', J ys m' W') ∨ Jx W')
theorem wpIn_iter {n : Nat} {g : Operand} {ps : Array Tmp} {assign body : Code} {Q : Exit → Act → World → Prop} {a : Act} {w : World} (h1 : 2 ≤ n) (f : FuncId) (fnc : Func) (hfn : Tryd.prog.funcs[f]? = some fnc) (henter : ∀ args w, (callFunc f args).run Tryd.prog w = .ok (.enter f args) w)
    (caps : Array Value) (ys : List (Array Value)) (Cap : World → Prop)
    (hg : a.eval g = .func (.func f) #[] caps) (hps : ∀ y ∈ ys, y.size = ps.size)
    (hIter : IterOk (n - 1) f caps ys Cap)
    (I : List (Array Value) → Nat → World → Prop) (Ix : World → Prop)
    (hIrel : ∀ pre m W W', I pre m W → Rel W W' → I pre m W') (hIw : ∀ pre m W, I pre m W → Cap W)
    (hIl : ∀ pre m W o, I pre m W → I pre m (W.putObj (w.heap.size + 1) o)) (hIxl : ∀ W o, Ix W → Ix (W.putObj (w.heap.size + 1) o))
    (h0 : ∀ o o', I [] (w.heap.size + 2) ((w.alloc o).alloc o')) (P1 : List (Array Value) → Array Value → Act → World → Prop) (hP1 : ∀ pre y a' W o, P1 pre y a' W → P1 pre y a' (W.putObj (w.heap.size + 1) o))
    (hassign : ∀ (l : Nat) (pre : List (Array Value)) (m : Nat) (y : Array Value) (W : World) (K : Act → World → Prop), I pre m W → (∃ rest, ys = pre ++ y :: rest) → w.heap.size + 1 < W.heap.size → (∀ a' W', Rel W W' → P1 pre y a' W' → K a' W') →
      assign.wpIn (Fence.wide.inRound l) (n - 1 - 1) Tryd.prog (Exit.then K (fun _ _ _ => False)) { tmps := (ps.zip y).foldl (fun t (p, v) => t.setIfInBounds p v) a.tmps, defers := [] } W)
    (hbody : ∀ (l : Nat) (pre : List (Array Value)) (m : Nat) (y : Array Value) (a' : Act) (W : World), I pre m W → w.heap.size + 1 < m → P1 pre y a' W → (∃ rest, ys = pre ++ y :: rest) → m ≤ W.heap.size →
      body.wpIn (Fence.wide.inRound l) (n - 1 - 1) Tryd.prog (roundEnds w.heap.size (w.heap.size + 1) (fun W' => I (pre ++ [y]) W'.heap.size W' ∧ Keep m W W') Ix W) a' W)
    (hdone : ∀ m W, I ys m W → W.heap[w.heap.size]? = some (.deferred (some [])) → Q .normal { a with defers := { target := .collected w.heap.size, args := #[] } :: a.defers } W)
    (hstop : ∀ W, Ix W → W.heap[w.heap.size]? = some (.deferred (some [])) → Code.ret.wpIn Fence.wide n Tryd.prog Q { a with defers := { target := .collected w.heap.size, args := #[] } :: a.defers } W) :
    (Code.rangeFunc g ps assign body).wpIn Fence.wide n Tryd.prog Q a w := by
  refine wpIn_rangeFunc ?_
  intro fn _
  obtain ⟨D, hD⟩ : ∃ D, D = w.heap.size := ⟨_, rfl⟩
  obtain ⟨mk, hmk⟩ : ∃ mk : LoopState → Option Code → Loop, mk = fun st pe => { state := st, pending := pe, fn, tmps := a.tmps, params := ps, assign, body, defers := w.heap.size } := ⟨_, rfl⟩
  obtain ⟨W1, hW1⟩ : ∃ W1, (w.alloc (.deferred (some []))).alloc (.loop (mk .ready none)) = W1 := ⟨_, rfl⟩
  have hL1 : W1.heap[D + 1]? = some (.loop (mk .ready none)) := by
    rw [← hW1, hD]
    have := World.alloc_heap_new (w.alloc (.deferred (some []))) (.loop (mk .ready none))
    rwa [World.size_alloc] at this
  have hK1 : W1.heap[D]? = some (.deferred (some [])) := by
    rw [← hW1, hD]; exact (Below.heap_alloc _ _ _ (by simp)).trans (World.alloc_heap_new w _)
  have hI1 : I [] (D + 2) W1 := by rw [← hW1, hD]; exact h0 _ _
  have hS1 : D + 2 ≤ W1.heap.size := by have := (Array.getElem?_eq_some_iff.1 hL1).1; omega
  rw [← hD] at hIl hIxl hP1 hassign hbody hdone hstop
  refine ⟨D + 1, [{ target := .collected D, args := #[] }], W1, { target := .fn (.func f) caps, args := #[.func (.yield (D + 1)) #[] #[]] }, W1, f,
    #[.func (.yield (D + 1)) #[] #[]] ++ caps, W1, ?_, ?_, fun _ _ => trivial, ?_, fun _ => by omega, ?_⟩
  · rw [← hW1, hmk, hD]; exact run_enterLoop_outer _ _ _ _ _
  · simp only [resolve, hg]
    simp [go_sem]
  · simp [invoke, go_sem, henter]
  · refine (hIter (D + 1)
      (fun pre m W => I pre m W ∧ (D + 1 < m ∧ m ≤ W.heap.size) ∧ W.heap[D + 1]? = some (.loop (mk .ready none)) ∧ W.heap[D]? = some (.deferred (some [])))
      (fun W => Ix W ∧ W.heap[D + 1]? = some (.loop (mk .done (some .ret))) ∧ W.heap[D]? = some (.deferred (some [])))
      ?_ ?_ ?_ (D + 2) W1 ⟨hI1, ⟨by omega, hS1⟩, hL1, hK1⟩).mono ?_
    · rintro pre m W W' ⟨k1, km, k2, k3⟩ hr
      exact ⟨hIrel _ _ _ _ k1 hr, ⟨km.1, Nat.le_trans km.2 hr.size⟩, heap_rel hr k2, heap_rel hr k3⟩
    · rintro pre m W ⟨k1, km, _, _⟩
      exact ⟨hIw _ _ _ k1, km.2⟩
    · rintro pre m y W ⟨k1, km, k2, k3⟩ hrest
      have hlt : D + 1 < W.heap.size := (Array.getElem?_eq_some_iff.1 k2).1
      have hyp : ps.size = y.size := (hps y (by obtain ⟨rest, e⟩ := hrest; rw [e]; simp)).symm
      have hy := run_yield (P := Tryd.prog) (args := y) k2 (by rw [hmk]; exact hyp.symm)
      refine ⟨_, _, _, _, hy, ?_⟩
      have e1 : (mk .ready none).fn = fn := by rw [hmk]
      have e2 : (mk .ready none).tmps = a.tmps := by rw [hmk]
      have e3 : (mk .ready none).assign = assign := by rw [hmk]
      have e4 : (mk .ready none).body = body := by rw [hmk]
      have e5 : (mk .ready none).params = ps := by rw [hmk]
      rw [e1, e2, e3, e4, e5]
      refine roundIn_of_wpIn trivial (hassign _ pre m y W _ k1 hrest hlt fun a' Wa hra hp1 => ⟨_, run_beginRound (heap_rel hra k2) (by rw [hmk]), ?_⟩)
      have m1 : { mk .ready none with state := .busy } = mk .busy none := by rw [hmk]
      rw [m1]
      have k1a := hIrel _ _ _ _ k1 hra
      have k2a := heap_rel hra k2
      have k3a := heap_rel hra k3
      have hlta : D + 1 < Wa.heap.size := (Array.getElem?_eq_some_iff.1 k2a).1
      have k2' : (Wa.putObj (D + 1) (.loop (mk .busy none))).heap[D + 1]? = some (.loop (mk .busy none)) := World.putObj_heap_same hlta
      have k3' := (World.putObj_heap_other (w := Wa) (o := .loop (mk .busy none)) (show D ≠ D + 1 by omega)).trans k3a
      have kk := (Keep.rel (m := m) hra).trans (Keep.put Wa km.1 (.loop (mk .busy none)))
      refine wpIn_mono (hbody _ pre m y a' _ (hIl _ _ _ _ k1a) km.1 (hP1 _ _ _ _ _ hp1) hrest (by rw [World.putObj_size]; exact Nat.le_trans km.2 hra.size)) ?_
      have fin : ∀ (jump : Option Code) (W3 : World), W3.heap[D + 1]? = (Wa.putObj (D + 1) (.loop (mk .busy none))).heap[D + 1]? →
          (Instr.endRound (D + 1) jump).run Tryd.prog W3 = .ok (.bool jump.isNone) (W3.putObj (D + 1) (.loop (mk (if jump.isNone then .ready else .done) jump))) ∧ D + 1 < W3.heap.size := fun jump W3 hk => by
        have h3 := hk.trans k2'
        have := run_endRound (P := Tryd.prog) jump h3
        have m2 : { mk .busy none with state := (if jump.isNone then LoopState.ready else .done), pending := jump } = mk (if jump.isNone then .ready else .done) jump := by rw [hmk]
        rw [m2] at this
        exact ⟨this, (Array.getElem?_eq_some_iff.1 h3).1⟩
      rintro e a3 W3 hp
      cases e with
      | normal =>
        obtain ⟨⟨j4, j5⟩, hi3, hk3⟩ := hp
        obtain ⟨hr, hl3⟩ := fin none W3 j5
        exact ⟨_, _, hr, .inl ⟨rfl, ⟨by rw [World.putObj_size]; exact hIl _ _ _ _ hi3, ⟨by rw [World.putObj_size]; exact hl3, Nat.le_refl _⟩, World.putObj_heap_same hl3, (World.putObj_heap_other (by omega)).trans (j4.trans k3')⟩, (kk.trans hk3).trans (Keep.put W3 km.1 _)⟩⟩
      | ret =>
        obtain ⟨⟨j4, j5⟩, hi3⟩ := hp
        obtain ⟨hr, hl3⟩ := fin (some .ret) W3 j5
        exact ⟨_, _, hr, .inr ⟨rfl, hIxl _ _ hi3, World.putObj_heap_same hl3, (World.putObj_heap_other (by omega)).trans (j4.trans k3')⟩⟩
      | exit id => exact hp.elim
      | goto t => exact hp.elim
      | panic ch => exact hp.elim
      | outgrown => exact hp.elim
    · rintro e W2 ⟨⟨v, rfl⟩, (⟨m', hi, _, hl, hk⟩ | ⟨hi, hl, hk⟩)⟩
      · have hend := run_endLoop (P := Tryd.prog) hl (by rw [hmk]; simp)
        have m3 : (mk .ready none).pending = none := by rw [hmk]
        rw [m3] at hend
        exact ⟨none, _, hend, hdone _ _ (hIl _ _ _ _ hi) ((World.putObj_heap_other (by omega)).trans hk)⟩
      · have hend := run_endLoop (P := Tryd.prog) hl (by rw [hmk]; simp)
        have m3 : (mk .done (some .ret)).pending = some .ret := by rw [hmk]
        rw [m3] at hend
        exact ⟨some .ret, _, hend, hstop _ (hIxl _ _ hi) ((World.putObj_heap_other (by omega)).trans hk)⟩
end Go.Proofs.YtjhjdiaomnpkmaaDoor
