/- The landed value code: a part cut off; both of two, the lesser and the greater one, the first or else the second one. -/
import Derived.Test.YtpehlldgnbajjaaGreatDoorZ18
namespace Go.Proofs.YtpehlldgnbajjaaGreatDoor
open Go.RowKit Go.Lib
set_option linter.unusedVariables false
set_option linter.unusedSimpArgs false

def CPost (w0 : World) (r : Except Int Bool) (e : Ending) (w' : World) : Prop := match r with
  | .ok b => e = .returned (.bool b) ∧ Rel w0 w'
  | .error _ => e = FLV ∧ Rel w0 w'
theorem CPost.yes {w0 w' : World} {r : Except Int Bool} {e : Ending} {b : Bool} (h : r = .ok b) (he : e = .returned (.bool b)) (hr : Rel w0 w') : CPost w0 r e w' := by subst h; exact ⟨he, hr⟩
theorem CPost.no {w0 w' : World} {r : Except Int Bool} {e : Ending} {er : Int} (h : r = .error er) (he : e = FLV) (hr : Rel w0 w') : CPost w0 r e w' := by subst h; exact ⟨he, hr⟩
theorem TPost.out {w0 w' : World} {r : Rs} {o : Option Int} {V : Int} {b : Bool} (h : r = .ok o) (hV : o.getD 0 = V) (hb : o.isSome = b) (hr : Rel w0 w') : TPost w0 r (.returned (.agg #[.int .i64 V, .bool b])) w' := by subst h; subst hV; subst hb; exact ⟨rfl, hr⟩
theorem tp_ok {f : FuncId} {args : Array Value} {w w0 : World} {r : Rs} {o : Option Int} {V : Int} {b : Bool} (h : Calls Tryz.prog f args w (TPost w0 r)) (hr : r = .ok o) (hV : o.getD 0 = V) (hb : o.isSome = b) : Calls Tryz.prog f args w fun e w' => e = .returned (.agg #[.int .i64 V, .bool b]) ∧ Rel w0 w' := by subst hr; subst hV; subst hb; exact h
theorem tp_no {f : FuncId} {args : Array Value} {w w0 : World} {r : Rs} {er : Int} (h : Calls Tryz.prog f args w (TPost w0 r)) (hr : r = .error er) : Calls Tryz.prog f args w fun e w' => e = FLV ∧ Rel w0 w' := by subst hr; exact h
def PToldAt (d : Nat) : Prop := ∀ (x : Ex) (S : Nat → Prop) (e : El) (A : Option Addr) (c : Nat) (os : List Of) (w0 w : World), fine d x = true → isCond x.k = false → Rel w0 w → ExAt S w e x → offsOk os = true → OffArg w A c os →
    Calls Tryz.prog 27 #[.slice A os.length c, EV e] w (TPost w0 (toldN os d x))
def PCondAt (d : Nat) : Prop := ∀ (x : Ex) (S : Nat → Prop) (e : El) (A : Option Addr) (c : Nat) (os : List Of) (w0 w : World), fine d x = true → isCond x.k = true → Rel w0 w → ExAt S w e x → offsOk os = true → OffArg w A c os →
    Calls Tryz.prog 32 #[.slice A os.length c, EV e] w (CPost w0 (condN os d x))
theorem pkid_ok {d : Nat} (H : PToldAt d) {S : Nat → Prop} {W : World} {el : El} {y : Ex} {A : Option Addr} {c : Nat} {os : List Of} (hx : fine d y = true) (hc : isCond y.k = false) (ha : ExAt S W el y) (hl : offsOk os = true) (ho : OffArg W A c os) {o : Option Int} {V : Int} {b : Bool} (hr : toldN os d y = .ok o) (hV : o.getD 0 = V) (hb : o.isSome = b) :
    ∀ w', Rel W w' → Calls Tryz.prog 27 #[.slice A os.length c, EV el] w' fun e w2 => e = .returned (.agg #[.int .i64 V, .bool b]) ∧ Rel w' w2 := fun w' h =>
  tp_ok (H y S el A c os w' w' hx hc h.self (ha.rel h) hl (ho.rel h)) hr hV hb
theorem pkid_no {d : Nat} (H : PToldAt d) {S : Nat → Prop} {W : World} {el : El} {y : Ex} {A : Option Addr} {c : Nat} {os : List Of} (hx : fine d y = true) (hc : isCond y.k = false) (ha : ExAt S W el y) (hl : offsOk os = true) (ho : OffArg W A c os) {er : Int} (hr : toldN os d y = .error er) :
    ∀ w', Rel W w' → Calls Tryz.prog 27 #[.slice A os.length c, EV el] w' fun e w2 => e = FLV ∧ Rel w' w2 := fun w' h =>
  tp_no (H y S el A c os w' w' hx hc h.self (ha.rel h) hl (ho.rel h)) hr
theorem pcnd_ok {d : Nat} (H : PCondAt d) {S : Nat → Prop} {W : World} {el : El} {y : Ex} {A : Option Addr} {c : Nat} {os : List Of} (hx : fine d y = true) (hc : isCond y.k = true) (ha : ExAt S W el y) (hl : offsOk os = true) (ho : OffArg W A c os) {b : Bool} (hr : condN os d y = .ok b) :
    ∀ w', Rel W w' → Calls Tryz.prog 32 #[.slice A os.length c, EV el] w' fun e w2 => e = .returned (.bool b) ∧ Rel w' w2 := fun w' h => by
  have := H y S el A c os w' w' hx hc h.self (ha.rel h) hl (ho.rel h)
  rw [hr] at this; exact this
theorem pcnd_no {d : Nat} (H : PCondAt d) {S : Nat → Prop} {W : World} {el : El} {y : Ex} {A : Option Addr} {c : Nat} {os : List Of} (hx : fine d y = true) (hc : isCond y.k = true) (ha : ExAt S W el y) (hl : offsOk os = true) (ho : OffArg W A c os) {er : Int} (hr : condN os d y = .error er) :
    ∀ w', Rel W w' → Calls Tryz.prog 32 #[.slice A os.length c, EV el] w' fun e w2 => e = FLV ∧ Rel w' w2 := fun w' h => by
  have := H y S el A c os w' w' hx hc h.self (ha.rel h) hl (ho.rel h)
  rw [hr] at this; exact this
theorem ret_tv {a b : Int} (h : a = b) : Ending.returned (.agg #[.int .i64 a, .bool true]) = .returned (TV (some b)) := by rw [h]; rfl
/-- Behind the boxes of a call: the argument's, and its answer's. -/
def SB (w w' : World) (ty : TypeId) (xs : Array Value) : Prop := Rel w w' ∧ Bk w' w.heap.size ty xs ∧ ∃ a b, Bk w' (w.heap.size + 1) 46 #[a, b]
theorem SB.rel {w w' w2 : World} {ty : TypeId} {xs : Array Value} (h : SB w w' ty xs) (hr : Rel w' w2) : SB w w2 ty xs := by
  obtain ⟨h1, h2, a, b, h3⟩ := h
  exact ⟨h1.trans hr, h2.rel hr, a, b, h3.rel hr⟩
theorem SB.new {w : World} (hr : Rel w w) (ty : TypeId) (xs : Array Value) : SB w ((w.alloc (.cells xs ty)).alloc (.cells #[.int .i64 0, .bool false] 46)) ty xs :=
  ⟨(hr.alloc _).alloc _, (Bk.new w ty xs).alloc _, _, _, Bk.snd w xs #[.int .i64 0, .bool false] ty 46⟩
theorem SB.r {w w' : World} {ty : TypeId} {xs : Array Value} (h : SB w w' ty xs) : Rel w w' := h.1
theorem SB.self {w w' : World} {ty : TypeId} {xs : Array Value} (h : SB w w' ty xs) : Rel w' w' := h.1.self
theorem SB.put {w w' : World} {ty : TypeId} {xs : Array Value} (h : SB w w' ty xs) (a b : Value) : SB w ((w'.setCell ⟨w.heap.size + 1, 0, none⟩ a).setCell ⟨w.heap.size + 1, 1, none⟩ b) ty xs := by
  obtain ⟨h1, h2, u, v, h3⟩ := h
  refine ⟨(h1.setCell (Nat.le_succ _) a).setCell (Nat.le_succ _) b, (h2.far (Nat.ne_of_lt (Nat.lt_succ_self _)) a).far (Nat.ne_of_lt (Nat.lt_succ_self _)) b, a, b, ?_⟩
  exact (h3.set_ 0 a).set_ 1 b
/-- An element of a row, whole. -/
def KidP (W : World) (A' : Option Addr) (i : Nat) (el : El) : Prop := ∃ g off, A' = some ⟨g, off, none⟩ ∧ g < W.heap.size ∧ W.cell? ⟨g, off + i, none⟩ = some (.int .i64 el.1) ∧ W.cell? ⟨g, off + i + 1, none⟩ = some (.int .i64 el.2.1) ∧ W.cell? ⟨g, off + i + 2, none⟩ = some (.string (B el.2.2.1)) ∧ W.cell? ⟨g, off + i + 3, none⟩ = some (.slice el.2.2.2.1 el.2.2.2.2.1 el.2.2.2.2.2)
theorem KidP.rel {W W' : World} {A' : Option Addr} {i : Nat} {el : El} (h : KidP W A' i el) (hr : Rel W W') : KidP W' A' i el := by
  obtain ⟨g, off, e, hl, h0, h1, h2, h3⟩ := h
  have hk : ∀ j, W'.cell? ⟨g, j, none⟩ = W.cell? ⟨g, j, none⟩ := fun j => hr.2.cell (p := ⟨g, j, none⟩) hl
  exact ⟨g, off, e, by have := hr.size; omega, by rw [hk]; exact h0, by rw [hk]; exact h1, by rw [hk]; exact h2, by rw [hk]; exact h3⟩
theorem kidp_of {S : Nat → Prop} {w W : World} {A' : Option Addr} {es : List El} {l : List Ex} (hrow : RowE S w A' es) (hsub : ∀ i (h : i < es.length) (h' : i < l.length), ExAt S w es[i] l[i]) (hl : es.length = l.length) (hr : Rel w W) (j : Nat) (hj : j < l.length) : ∃ el : El, KidP W A' (j * 4) el ∧ ExAt S W el l[j] := by
  obtain ⟨g, off, k, n, nm, A2, m, c, hA, h0, h1, h2, h3, ha⟩ := ExAt.arg hrow hsub hl hr j hj
  exact ⟨(k, n, nm, A2, m, c), ⟨g, off, hA, blk_of_cell h0, h0, h1, h2, h3⟩, ha⟩
theorem KidP.at0 {W : World} {g off : Nat} {el : El} (h : KidP W (some ⟨g, off, none⟩) 0 el) : W.cell? ⟨g, off, none⟩ = some (.int .i64 el.1) ∧ W.cell? ⟨g, off + 1, none⟩ = some (.int .i64 el.2.1) ∧ W.cell? ⟨g, off + 2, none⟩ = some (.string (B el.2.2.1)) ∧ W.cell? ⟨g, off + 3, none⟩ = some (.slice el.2.2.2.1 el.2.2.2.2.1 el.2.2.2.2.2) := by
  obtain ⟨g', off', e, _, h0, h1, h2, h3⟩ := h
  injection e with e; injection e with e1 e2; subst e1; subst e2
  exact ⟨h0, h1, h2, h3⟩
theorem KidP.at {W : World} {g off i : Nat} {el : El} (h : KidP W (some ⟨g, off, none⟩) i el) : W.cell? ⟨g, off + i, none⟩ = some (.int .i64 el.1) ∧ W.cell? ⟨g, off + i + 1, none⟩ = some (.int .i64 el.2.1) ∧ W.cell? ⟨g, off + i + 2, none⟩ = some (.string (B el.2.2.1)) ∧ W.cell? ⟨g, off + i + 3, none⟩ = some (.slice el.2.2.2.1 el.2.2.2.2.1 el.2.2.2.2.2) := by
  obtain ⟨g', off', e, _, h0, h1, h2, h3⟩ := h
  injection e with e; injection e with e1 e2; subst e1; subst e2
  exact ⟨h0, h1, h2, h3⟩
theorem KidP.is {W : World} {A' : Option Addr} {i : Nat} {el : El} (h : KidP W A' i el) : ∃ g off, A' = some ⟨g, off, none⟩ := by
  obtain ⟨g, off, e, _⟩ := h; exact ⟨g, off, e⟩
set_option maxRecDepth 100000 in
set_option maxHeartbeats 4000000 in
theorem vcut_none (v n : Int) (w0 w : World) (hr : Rel w0 w) :
    Calls Tryz.prog 52 #[.agg #[.int .i64 v, .bool false], .int .i64 n] w fun e w' => e = .returned (.agg #[.int .i64 0, .bool false]) ∧ Rel w0 w' := by
  have HR := Lib.hid hr
  have hz := hr.size
  have HS := Lib.hid (SB.new hr.self 46 #[.int .i64 v, .bool false])
  obtain ⟨W, hW⟩ : ∃ W, (w.alloc (.cells #[.int .i64 v, .bool false] 46)).alloc (.cells #[.int .i64 0, .bool false] 46) = W := ⟨_, rfl⟩
  rw [hW] at HS
  have hS9 := HS.out
  obtain ⟨⟨c0, c1⟩, _⟩ := hS9.2.1.two
  obtain ⟨a9, b9, hb9⟩ := hS9.2.2; obtain ⟨⟨d0, d1⟩, e0, e1⟩ := hb9.two
  clear hr hS9 hb9
  go_enter Tryz.func52, Tryz.ntmps52
  go_wp2_with (fail)
  exact bodyPost_ret (v := TV none) (by simp [results, Tryz.results52, go_sem, d0, d1]) rfl ⟨rfl, HR.out.trans (HS.out.put _ _).1⟩
set_option maxRecDepth 100000 in
set_option maxHeartbeats 4000000 in
theorem vcut_p (v n : Int) (h : part2 v n false = 10) (w0 w : World) (hr : Rel w0 w) :
    Calls Tryz.prog 52 #[.agg #[.int .i64 v, .bool true], .int .i64 n] w (TPost w0 (cutR v n)) := by
  have HR := Lib.hid hr
  have hz := hr.size
  have HS := Lib.hid (SB.new hr.self 46 #[.int .i64 v, .bool true])
  obtain ⟨W, hW⟩ : ∃ W, (w.alloc (.cells #[.int .i64 v, .bool true] 46)).alloc (.cells #[.int .i64 0, .bool false] 46) = W := ⟨_, rfl⟩
  rw [hW] at HS
  have hP := fun w => m9part_any v n false w
  unfold Two at hP
  have HF := Lib.hid (show cutR v n = .error 10 by unfold cutR; rw [if_neg (by omega), h])
  rw [h] at hP
  generalize part1 v n false = P at *
  have HP := Lib.hid hP
  clear h hP
  have hS9 := HS.out
  obtain ⟨⟨c0, c1⟩, _⟩ := hS9.2.1.two
  clear hr hS9
  go_enter Tryz.func52, Tryz.ntmps52
  go_upto_region 3 with (fail)
  refine wp_region_held_drew (S := (fun w' => SB w w' 46 #[.int .i64 v, .bool true])) (by kernel_rfl) (HS.out.rel HS.out.1.right2.drew) (fun hHeld => ?_)
  refine held_take (i := 0) (v := ?_) (some 9) rfl rfl (by kernel_rfl) (by kernel_rfl) (by kernel_rfl) (fun _ _ _ h => h) (Or.inl ⟨by rfl, ?_⟩) hHeld ?_
  rotate_left 1
  · intro w' (h : SB w w' 46 #[.int .i64 v, .bool true]); obtain ⟨⟨x0, x1⟩, _⟩ := h.2.1.two; go_simp; try with_reducible rfl
  try simp only [Act.put, List.setIfInBounds_toArray, List.set_cons_zero, List.set_cons_succ]
  refine held_take (i := 1) (v := ?_) (some 10) rfl rfl (by kernel_rfl) (by kernel_rfl) (by kernel_rfl) (fun _ _ _ h => h) (Or.inl ⟨by rfl, ?_⟩) hHeld ?_
  rotate_left 1
  · intro w' (h : SB w w' 46 #[.int .i64 v, .bool true]); obtain ⟨⟨x0, x1⟩, _⟩ := h.2.1.two; go_simp; try with_reducible rfl
  try simp only [Act.put, List.setIfInBounds_toArray, List.set_cons_zero, List.set_cons_succ]
  refine held_take (i := 2) (v := ?_) (some 11) rfl rfl (by kernel_rfl) (by kernel_rfl) (by kernel_rfl) (fun _ _ _ h => h) (Or.inl ⟨by rfl, ?_⟩) hHeld ?_
  rotate_left 1
  · intro w' (h : SB w w' 46 #[.int .i64 v, .bool true]); obtain ⟨⟨x0, x1⟩, _⟩ := h.2.1.two; go_simp; try with_reducible rfl
  try simp only [Act.put, List.setIfInBounds_toArray, List.set_cons_zero, List.set_cons_succ]
  refine held_take (i := 3) (v := ?_) (some 12) rfl rfl (by kernel_rfl) (by kernel_rfl) (by kernel_rfl) (fun _ _ _ h => h) (Or.inl ⟨by rfl, ?_⟩) hHeld ?_
  rotate_left 1
  · intro w' (h : SB w w' 46 #[.int .i64 v, .bool true]); obtain ⟨⟨x0, x1⟩, _⟩ := h.2.1.two; go_simp; try with_reducible rfl
  try simp only [Act.put, List.setIfInBounds_toArray, List.set_cons_zero, List.set_cons_succ]
  refine held_one (j := 4) (by kernel_rfl) rfl (fun K hK => ?_)
  try simp only [List.getElem_toArray, List.getElem_cons_succ, List.getElem_cons_zero]
  rw [if_pos (by rfl)]
  go_simp
  go_at_call 70
  (with_reducible refine (HP.out _).mono ?_)
  rintro e w8 ⟨rfl, rfl⟩
  refine hK.out _ _ hHeld (fun hHeld => ?_)
  clear hK K
  try simp only [Act.put, List.setIfInBounds_toArray, List.set_cons_zero, List.set_cons_succ]
  refine held_take (i := 5) (v := ?_) (some 14) rfl rfl (by kernel_rfl) (by kernel_rfl) (by kernel_rfl) (fun _ _ _ h => h) (Or.inl ⟨by rfl, ?_⟩) hHeld ?_
  rotate_left 1
  · intro w' (h : SB w w' 46 #[.int .i64 v, .bool true]); obtain ⟨⟨x0, x1⟩, _⟩ := h.2.1.two; go_simp; try with_reducible rfl
  try simp only [Act.put, List.setIfInBounds_toArray, List.set_cons_zero, List.set_cons_succ]
  refine held_take (i := 6) (v := ?_) (some 15) rfl rfl (by kernel_rfl) (by kernel_rfl) (by kernel_rfl) (fun _ _ _ h => h) (Or.inl ⟨by rfl, ?_⟩) hHeld ?_
  rotate_left 1
  · intro w' (h : SB w w' 46 #[.int .i64 v, .bool true]); obtain ⟨⟨x0, x1⟩, _⟩ := h.2.1.two; go_simp; try with_reducible rfl
  try simp only [Act.put, List.setIfInBounds_toArray, List.set_cons_zero, List.set_cons_succ]
  refine held_one (j := 7) (by kernel_rfl) rfl (fun K hK => ?_)
  try simp only [List.getElem_toArray, List.getElem_cons_succ, List.getElem_cons_zero]
  rw [if_pos (by rfl)]
  go_simp
  go_at_call 68
  (with_reducible refine (vsure_no P _).mono ?_)
  rintro e w7 ⟨rfl, rfl⟩
  exact ⟨rfl, TPost.no HF.out rfl (HR.out.trans hHeld.r)⟩
set_option maxRecDepth 100000 in
set_option maxHeartbeats 4000000 in
theorem vcut_e (v n : Int) (h : part2 v n false = 0) {er : Int} (hq : subR v (part1 v n false) = .error er) (w0 w : World) (hr : Rel w0 w) :
    Calls Tryz.prog 52 #[.agg #[.int .i64 v, .bool true], .int .i64 n] w (TPost w0 (cutR v n)) := by
  have HR := Lib.hid hr
  have hz := hr.size
  have HS := Lib.hid (SB.new hr.self 46 #[.int .i64 v, .bool true])
  obtain ⟨W, hW⟩ : ∃ W, (w.alloc (.cells #[.int .i64 v, .bool true] 46)).alloc (.cells #[.int .i64 0, .bool false] 46) = W := ⟨_, rfl⟩
  rw [hW] at HS
  have hP := fun w => m9part_any v n false w
  unfold Two at hP
  have hF : cutR v n = subR v (part1 v n false) := by unfold cutR; rw [if_pos h]
  rw [h] at hP
  rw [hF, hq]
  generalize part1 v n false = P at *
  have HP := Lib.hid hP
  have HL := Lib.hid (fun (w : World) (hr : Rel w w) => tp_no (vless_some v P w w hr) hq)
  clear h hP hF hq
  have hS9 := HS.out
  obtain ⟨⟨c0, c1⟩, _⟩ := hS9.2.1.two
  clear hr hS9
  go_enter Tryz.func52, Tryz.ntmps52
  go_upto_region 3 with (fail)
  refine wp_region_held_drew (S := (fun w' => SB w w' 46 #[.int .i64 v, .bool true])) (by kernel_rfl) (HS.out.rel HS.out.1.right2.drew) (fun hHeld => ?_)
  refine held_take (i := 0) (v := ?_) (some 9) rfl rfl (by kernel_rfl) (by kernel_rfl) (by kernel_rfl) (fun _ _ _ h => h) (Or.inl ⟨by rfl, ?_⟩) hHeld ?_
  rotate_left 1
  · intro w' (h : SB w w' 46 #[.int .i64 v, .bool true]); obtain ⟨⟨x0, x1⟩, _⟩ := h.2.1.two; go_simp; try with_reducible rfl
  try simp only [Act.put, List.setIfInBounds_toArray, List.set_cons_zero, List.set_cons_succ]
  refine held_take (i := 1) (v := ?_) (some 10) rfl rfl (by kernel_rfl) (by kernel_rfl) (by kernel_rfl) (fun _ _ _ h => h) (Or.inl ⟨by rfl, ?_⟩) hHeld ?_
  rotate_left 1
  · intro w' (h : SB w w' 46 #[.int .i64 v, .bool true]); obtain ⟨⟨x0, x1⟩, _⟩ := h.2.1.two; go_simp; try with_reducible rfl
  try simp only [Act.put, List.setIfInBounds_toArray, List.set_cons_zero, List.set_cons_succ]
  refine held_take (i := 2) (v := ?_) (some 11) rfl rfl (by kernel_rfl) (by kernel_rfl) (by kernel_rfl) (fun _ _ _ h => h) (Or.inl ⟨by rfl, ?_⟩) hHeld ?_
  rotate_left 1
  · intro w' (h : SB w w' 46 #[.int .i64 v, .bool true]); obtain ⟨⟨x0, x1⟩, _⟩ := h.2.1.two; go_simp; try with_reducible rfl
  try simp only [Act.put, List.setIfInBounds_toArray, List.set_cons_zero, List.set_cons_succ]
  refine held_take (i := 3) (v := ?_) (some 12) rfl rfl (by kernel_rfl) (by kernel_rfl) (by kernel_rfl) (fun _ _ _ h => h) (Or.inl ⟨by rfl, ?_⟩) hHeld ?_
  rotate_left 1
  · intro w' (h : SB w w' 46 #[.int .i64 v, .bool true]); obtain ⟨⟨x0, x1⟩, _⟩ := h.2.1.two; go_simp; try with_reducible rfl
  try simp only [Act.put, List.setIfInBounds_toArray, List.set_cons_zero, List.set_cons_succ]
  refine held_one (j := 4) (by kernel_rfl) rfl (fun K hK => ?_)
  try simp only [List.getElem_toArray, List.getElem_cons_succ, List.getElem_cons_zero]
  rw [if_pos (by rfl)]
  go_simp
  go_at_call 70
  (with_reducible refine (HP.out _).mono ?_)
  rintro e w8 ⟨rfl, rfl⟩
  refine hK.out _ _ hHeld (fun hHeld => ?_)
  clear hK K
  try simp only [Act.put, List.setIfInBounds_toArray, List.set_cons_zero, List.set_cons_succ]
  refine held_take (i := 5) (v := ?_) (some 14) rfl rfl (by kernel_rfl) (by kernel_rfl) (by kernel_rfl) (fun _ _ _ h => h) (Or.inl ⟨by rfl, ?_⟩) hHeld ?_
  rotate_left 1
  · intro w' (h : SB w w' 46 #[.int .i64 v, .bool true]); obtain ⟨⟨x0, x1⟩, _⟩ := h.2.1.two; go_simp; try with_reducible rfl
  try simp only [Act.put, List.setIfInBounds_toArray, List.set_cons_zero, List.set_cons_succ]
  refine held_take (i := 6) (v := ?_) (some 15) rfl rfl (by kernel_rfl) (by kernel_rfl) (by kernel_rfl) (fun _ _ _ h => h) (Or.inl ⟨by rfl, ?_⟩) hHeld ?_
  rotate_left 1
  · intro w' (h : SB w w' 46 #[.int .i64 v, .bool true]); obtain ⟨⟨x0, x1⟩, _⟩ := h.2.1.two; go_simp; try with_reducible rfl
  try simp only [Act.put, List.setIfInBounds_toArray, List.set_cons_zero, List.set_cons_succ]
  refine held_one (j := 7) (by kernel_rfl) rfl (fun K hK => ?_)
  try simp only [List.getElem_toArray, List.getElem_cons_succ, List.getElem_cons_zero]
  rw [if_pos (by rfl)]
  go_simp
  go_at_call 68
  (with_reducible refine (vsure_ok P _).mono ?_)
  rintro e w7 ⟨rfl, rfl⟩
  refine hK.out _ _ hHeld (fun hHeld => ?_)
  clear hK K
  try simp only [Act.put, List.setIfInBounds_toArray, List.set_cons_zero, List.set_cons_succ]
  refine held_one (j := 8) (by kernel_rfl) rfl (fun K hK => ?_)
  try simp only [List.getElem_toArray, List.getElem_cons_succ, List.getElem_cons_zero]
  rw [if_pos (by rfl)]
  go_simp
  go_at_call 51
  (with_reducible refine (HL.out _ hHeld.self).mono ?_)
  rintro e w6 ⟨rfl, h6⟩
  exact ⟨rfl, TPost.no rfl rfl (HR.out.trans (hHeld.r.trans h6))⟩
set_option maxRecDepth 100000 in
set_option maxHeartbeats 4000000 in
theorem vcut_s (v n : Int) (h : part2 v n false = 0) {o : Option Int} (hq : subR v (part1 v n false) = .ok o) (w0 w : World) (hr : Rel w0 w) :
    Calls Tryz.prog 52 #[.agg #[.int .i64 v, .bool true], .int .i64 n] w (TPost w0 (cutR v n)) := by
  have HR := Lib.hid hr
  have hz := hr.size
  have HS := Lib.hid (SB.new hr.self 46 #[.int .i64 v, .bool true])
  obtain ⟨W, hW⟩ : ∃ W, (w.alloc (.cells #[.int .i64 v, .bool true] 46)).alloc (.cells #[.int .i64 0, .bool false] 46) = W := ⟨_, rfl⟩
  rw [hW] at HS
  have hP := fun w => m9part_any v n false w
  unfold Two at hP
  have hF : cutR v n = subR v (part1 v n false) := by unfold cutR; rw [if_pos h]
  rw [h] at hP
  rw [hF, hq]
  generalize part1 v n false = P at *
  have HP := Lib.hid hP
  obtain ⟨V, hV⟩ : ∃ V, o.getD 0 = V := ⟨_, rfl⟩
  obtain ⟨b, hb⟩ : ∃ b, o.isSome = b := ⟨_, rfl⟩
  have HL := Lib.hid (fun (w : World) (hr : Rel w w) => tp_ok (vless_some v P w w hr) hq hV hb)
  have HV := Lib.hid hV
  have Hb := Lib.hid hb
  clear h hP hF hq hV hb
  have hS9 := HS.out
  obtain ⟨⟨c0, c1⟩, _⟩ := hS9.2.1.two
  clear hr hS9
  go_enter Tryz.func52, Tryz.ntmps52
  go_upto_region 3 with (fail)
  refine wp_region_held_drew (S := (fun w' => SB w w' 46 #[.int .i64 v, .bool true])) (by kernel_rfl) (HS.out.rel HS.out.1.right2.drew) (fun hHeld => ?_)
  refine held_take (i := 0) (v := ?_) (some 9) rfl rfl (by kernel_rfl) (by kernel_rfl) (by kernel_rfl) (fun _ _ _ h => h) (Or.inl ⟨by rfl, ?_⟩) hHeld ?_
  rotate_left 1
  · intro w' (h : SB w w' 46 #[.int .i64 v, .bool true]); obtain ⟨⟨x0, x1⟩, _⟩ := h.2.1.two; go_simp; try with_reducible rfl
  try simp only [Act.put, List.setIfInBounds_toArray, List.set_cons_zero, List.set_cons_succ]
  refine held_take (i := 1) (v := ?_) (some 10) rfl rfl (by kernel_rfl) (by kernel_rfl) (by kernel_rfl) (fun _ _ _ h => h) (Or.inl ⟨by rfl, ?_⟩) hHeld ?_
  rotate_left 1
  · intro w' (h : SB w w' 46 #[.int .i64 v, .bool true]); obtain ⟨⟨x0, x1⟩, _⟩ := h.2.1.two; go_simp; try with_reducible rfl
  try simp only [Act.put, List.setIfInBounds_toArray, List.set_cons_zero, List.set_cons_succ]
  refine held_take (i := 2) (v := ?_) (some 11) rfl rfl (by kernel_rfl) (by kernel_rfl) (by kernel_rfl) (fun _ _ _ h => h) (Or.inl ⟨by rfl, ?_⟩) hHeld ?_
  rotate_left 1
  · intro w' (h : SB w w' 46 #[.int .i64 v, .bool true]); obtain ⟨⟨x0, x1⟩, _⟩ := h.2.1.two; go_simp; try with_reducible rfl
  try simp only [Act.put, List.setIfInBounds_toArray, List.set_cons_zero, List.set_cons_succ]
  refine held_take (i := 3) (v := ?_) (some 12) rfl rfl (by kernel_rfl) (by kernel_rfl) (by kernel_rfl) (fun _ _ _ h => h) (Or.inl ⟨by rfl, ?_⟩) hHeld ?_
  rotate_left 1
  · intro w' (h : SB w w' 46 #[.int .i64 v, .bool true]); obtain ⟨⟨x0, x1⟩, _⟩ := h.2.1.two; go_simp; try with_reducible rfl
  try simp only [Act.put, List.setIfInBounds_toArray, List.set_cons_zero, List.set_cons_succ]
  refine held_one (j := 4) (by kernel_rfl) rfl (fun K hK => ?_)
  try simp only [List.getElem_toArray, List.getElem_cons_succ, List.getElem_cons_zero]
  rw [if_pos (by rfl)]
  go_simp
  go_at_call 70
  (with_reducible refine (HP.out _).mono ?_)
  rintro e w8 ⟨rfl, rfl⟩
  refine hK.out _ _ hHeld (fun hHeld => ?_)
  clear hK K
  try simp only [Act.put, List.setIfInBounds_toArray, List.set_cons_zero, List.set_cons_succ]
  refine held_take (i := 5) (v := ?_) (some 14) rfl rfl (by kernel_rfl) (by kernel_rfl) (by kernel_rfl) (fun _ _ _ h => h) (Or.inl ⟨by rfl, ?_⟩) hHeld ?_
  rotate_left 1
  · intro w' (h : SB w w' 46 #[.int .i64 v, .bool true]); obtain ⟨⟨x0, x1⟩, _⟩ := h.2.1.two; go_simp; try with_reducible rfl
  try simp only [Act.put, List.setIfInBounds_toArray, List.set_cons_zero, List.set_cons_succ]
  refine held_take (i := 6) (v := ?_) (some 15) rfl rfl (by kernel_rfl) (by kernel_rfl) (by kernel_rfl) (fun _ _ _ h => h) (Or.inl ⟨by rfl, ?_⟩) hHeld ?_
  rotate_left 1
  · intro w' (h : SB w w' 46 #[.int .i64 v, .bool true]); obtain ⟨⟨x0, x1⟩, _⟩ := h.2.1.two; go_simp; try with_reducible rfl
  try simp only [Act.put, List.setIfInBounds_toArray, List.set_cons_zero, List.set_cons_succ]
  refine held_one (j := 7) (by kernel_rfl) rfl (fun K hK => ?_)
  try simp only [List.getElem_toArray, List.getElem_cons_succ, List.getElem_cons_zero]
  rw [if_pos (by rfl)]
  go_simp
  go_at_call 68
  (with_reducible refine (vsure_ok P _).mono ?_)
  rintro e w7 ⟨rfl, rfl⟩
  refine hK.out _ _ hHeld (fun hHeld => ?_)
  clear hK K
  try simp only [Act.put, List.setIfInBounds_toArray, List.set_cons_zero, List.set_cons_succ]
  refine held_one (j := 8) (by kernel_rfl) rfl (fun K hK => ?_)
  try simp only [List.getElem_toArray, List.getElem_cons_succ, List.getElem_cons_zero]
  rw [if_pos (by rfl)]
  go_simp
  go_at_call 51
  (with_reducible refine (HL.out _ hHeld.self).mono ?_)
  rintro e w6 ⟨rfl, h6⟩
  have hS9 := hHeld.rel h6
  obtain ⟨a9, b9, hb9⟩ := hS9.2.2
  obtain ⟨⟨d0, d1⟩, e0, e1⟩ := hb9.two
  clear hb9
  refine hK.out _ _ hS9 (fun hHeld => ?_)
  clear hK K
  try simp only [Act.put, List.setIfInBounds_toArray, List.set_cons_zero, List.set_cons_succ]
  refine held_one (j := 9) (by kernel_rfl) rfl (fun K hK => ?_)
  try simp only [List.getElem_toArray, List.getElem_cons_succ, List.getElem_cons_zero]
  rw [if_pos (by rfl)]
  go_simp
  refine hK.out _ _ (hS9.put _ _) (fun hHeld => ?_)
  clear hK K
  try simp only [Act.put, List.setIfInBounds_toArray, List.set_cons_zero, List.set_cons_succ]
  refine wpAnyH_done (by kernel_rfl) ?_ _
  go_wp2_with (fail)
  exact bodyPost_ret (v := .agg #[.int .i64 V, .bool b]) (by simp [results, Tryz.results52, go_sem, d0, d1]) rfl (TPost.out rfl HV.out Hb.out (HR.out.trans hHeld.r))
theorem vcut_any (v n : Int) (w0 w : World) (hr : Rel w0 w) : Calls Tryz.prog 52 #[.agg #[.int .i64 v, .bool true], .int .i64 n] w (TPost w0 (cutR v n)) := by
  rcases part2_is v n false with h | h
  · cases hq : subR v (part1 v n false) with
    | ok o => exact vcut_s v n h hq w0 w hr
    | error er => exact vcut_e v n h hq w0 w hr
  · exact vcut_p v n h w0 w hr
end Go.Proofs.YtpehlldgnbajjaaGreatDoor
