/- Plain mathematics of layer 9: what simple expressions tell; offers of raw numbers; lowest and second. No program in this text; Plain mathematics of layer 9: what the laws ask. No program in this text; Plain mathematics of layer 9: cuts, and what is told of one offer. No program in this text; The document's own readings of numbers and amounts (layer 2's), at this seat. -/
import Derived.Test.YtpehlldgnbajjaaGreatDoorZ06
import Derived.Test.YtpehlldgnbajjaaGreatDoorZ00
import Derived.Laws.RangeAny
import Derived.IntWalk
namespace Go.Proofs.YtpehlldgnbajjaaGreatDoor
open Go.Lib
set_option linter.unusedVariables false
set_option linter.unusedSimpArgs false

/-- Offers of raw numbers, as the law makes them. -/
def ofL (z : Int × Int) : Of := (sellerL (pk z.1 60), 1 + pk z.2 3000)
def hasS (out : List Of) (s : List UInt8) : Bool := out.any fun o => decide (o.1 = s)
def offersL : List (Int × Int) → List Of → List Of
  | [], out => out
  | z :: t, out => if out.length < 8 then (if hasS out (ofL z).1 then offersL t out else offersL t (out ++ [ofL z])) else out
theorem of_ok (z : Int × Int) : offOk (ofL z) = true := by
  have h1 := pk_bd z.1 60 (by omega)
  have h2 := pk_bd z.2 3000 (by omega)
  unfold offOk ofL
  simp only [Bool.and_eq_true, decide_eq_true_eq]
  exact ⟨seller_name _ h1.1 h1.2, by omega, by omega⟩
def Small (l : List Of) : Prop := ∀ o ∈ l, 1 ≤ o.2 ∧ o.2 ≤ 3000
theorem offers_ok : ∀ (zs : List (Int × Int)) (out : List Of), offsOk out = true → offsOk (offersL zs out) = true := by
  intro zs
  induction zs with
  | nil => intro out h; exact h
  | cons z t ih =>
    intro out h
    rw [offersL]
    split
    · rename_i hl
      split
      · exact ih _ h
      · rename_i hs
        refine ih _ ?_
        rw [offs_nodup] at h ⊢
        obtain ⟨h1, h2, h3⟩ := h
        refine ⟨by simp; omega, fun o ho => ?_, ?_⟩
        · rcases List.mem_append.1 ho with ho | ho
          · exact h2 o ho
          · obtain rfl : o = ofL z := by simpa using ho
            exact of_ok z
        · rw [List.map_append, List.nodup_append]
          refine ⟨h3, by simp, fun a ha b hb => ?_⟩
          obtain rfl : b = (ofL z).1 := by simpa using hb
          obtain ⟨o, ho, rfl⟩ := List.mem_map.1 ha
          intro e
          apply hs
          unfold hasS
          rw [List.any_eq_true]
          exact ⟨o, ho, by simpa using e⟩
    · exact h
theorem offers_small : ∀ (zs : List (Int × Int)) (out : List Of), Small out → Small (offersL zs out) := by
  intro zs
  induction zs with
  | nil => intro out h; exact h
  | cons z t ih =>
    intro out h
    rw [offersL]
    split
    · split
      · exact ih _ h
      · refine ih _ fun o ho => ?_
        rcases List.mem_append.1 ho with ho | ho
        · exact h o ho
        · obtain rfl : o = ofL z := by simpa using ho
          have h2 := pk_bd z.2 3000 (by omega)
          exact ⟨by show 1 ≤ 1 + pk z.2 3000; omega, by show 1 + pk z.2 3000 ≤ 3000; omega⟩
    · exact h
theorem offsOk_nil : offsOk [] = true := by decide
theorem small_nil : Small [] := fun o h => by cases h
/-- The law's offers. -/
def offS (zs : List (Int × Int)) : List Of := offersL zs []
theorem offS_ok (zs : List (Int × Int)) : offsOk (offS zs) = true := offers_ok _ _ offsOk_nil
theorem offS_small (zs : List (Int × Int)) : Small (offS zs) := offers_small _ _ small_nil
theorem offs_len {l : List Of} (h : offsOk l = true) : l.length ≤ 8 := (offs_nodup.1 h).1

/-- What has a text of its own may be a strategy. -/
theorem right_leaf {k n : Int} {nm : List UInt8} (hk : k = 1 ∨ k = 2 ∨ k = 3 ∨ k = 4) (hn : 0 ≤ n ∧ n ≤ mostN k) (h3 : nm ≠ [] ↔ k = 3) (hm : k = 3 → isName nm = true) : rightX (.mk k n nm []) = true := by
  have hf : fine 32 (.mk k n nm []) = true := fine_mk (by rcases hk with rfl | rfl | rfl | rfl <;> rfl) hn h3 hm fun i hi => absurd hi (by simp)
  have hc : isCond (Ex.mk k n nm []).k = false := by rcases hk with rfl | rfl | rfl | rfl <;> rfl
  have hs : size (.mk k n nm []) = 1 := by rw [size_mk, sizes_nil]
  have ht := text_len _ _ hf
  unfold rightX
  rw [hf, hc, hs]
  rw [hs] at ht
  simp; omega
theorem right_one {k n : Int} {x : Ex} (hk : k = 5 ∨ k = 6) (hn : 0 ≤ n ∧ n ≤ mostN k) (hx : fine 31 x = true) (hc : isCond x.k = false) (hs : size x ≤ 30) : rightX (.mk k n [] [x]) = true := by
  have hf : fine 32 (.mk k n [] [x]) = true := fine_mk (by rcases hk with rfl | rfl <;> rfl) hn (by rcases hk with rfl | rfl <;> simp) (by omega) fun i hi => by
    obtain rfl : i = 0 := by simpa using hi
    exact ⟨by rw [show [x][0] = x from rfl, hc]; rcases hk with rfl | rfl <;> rfl, hx⟩
  have hc : isCond (Ex.mk k n [] [x]).k = false := by rcases hk with rfl | rfl <;> rfl
  have hs : size (.mk k n [] [x]) ≤ 31 := by rw [size_mk, sizes_cons, sizes_nil]; omega
  have ht := text_len _ _ hf
  unfold rightX
  rw [hf, hc]
  simp; omega
theorem fine_leaf {d : Nat} {k n : Int} {nm : List UInt8} (hk : k = 1 ∨ k = 2 ∨ k = 3 ∨ k = 4 ∨ k = 11) (hn : 0 ≤ n ∧ n ≤ mostN k) (h3 : nm ≠ [] ↔ k = 3) (hm : k = 3 → isName nm = true) : fine (d + 1) (.mk k n nm []) = true :=
  fine_mk (by rcases hk with rfl | rfl | rfl | rfl | rfl <;> rfl) hn h3 hm fun i hi => absurd hi (by simp)
theorem told_one (l : List Of) (d : Nat) (x : Ex) (h : x.k = 1) : toldN l (d + 1) x = .ok (rk l 0) := by rw [told_succ]; unfold toldF toldG; rw [if_pos h]
theorem told_two (l : List Of) (d : Nat) (x : Ex) (h : x.k = 2) : toldN l (d + 1) x = .ok (rk l 1) := by rw [told_succ]; unfold toldF toldG; rw [h]; rfl
theorem told_from (l : List Of) (d : Nat) (x : Ex) (h : x.k = 3) : toldN l (d + 1) x = .ok (fromO l x.nm) := by rw [told_succ]; unfold toldF toldG; rw [h]; rfl
theorem told_fix (l : List Of) (d : Nat) (x : Ex) (h : x.k = 4) : toldN l (d + 1) x = .ok (some x.n) := by rw [told_succ]; unfold toldF toldG; rw [h]; rfl
theorem told_less5 (l : List Of) (d : Nat) (n : Int) (nm : List UInt8) (y : Ex) : toldN l (d + 1) (.mk 5 n nm [y]) = match toldN l d y with | .error e => .error e | .ok none => .ok none | .ok (some v) => subR v n := by
  rw [told_succ]; unfold toldF toldG
  rw [show arg (.mk 5 n nm [y]) 0 = y from rfl]
  cases toldN l d y with
  | error e => rfl
  | ok o => cases o <;> rfl
theorem told_cut6 (l : List Of) (d : Nat) (n : Int) (nm : List UInt8) (y : Ex) : toldN l (d + 1) (.mk 6 n nm [y]) = match toldN l d y with | .error e => .error e | .ok none => .ok none | .ok (some v) => cutR v n := by
  rw [told_succ]; unfold toldF toldG
  rw [show arg (.mk 6 n nm [y]) 0 = y from rfl]
  cases toldN l d y with
  | error e => rfl
  | ok o => cases o <;> rfl
theorem told_both (l : List Of) (d : Nat) (k n : Int) (nm : List UInt8) (x y : Ex) (hk : k = 7 ∨ k = 8) : toldN l (d + 1) (.mk k n nm [x, y]) = match toldN l d x with | .error e => .error e | .ok a => match toldN l d y with | .error e => .error e | .ok b => .ok (bothF k a b) := by
  rw [told_succ]; unfold toldF toldG
  rw [show arg (.mk k n nm [x, y]) 0 = x from rfl, show arg (.mk k n nm [x, y]) 1 = y from rfl]
  rcases hk with rfl | rfl <;> rfl
theorem told_else (l : List Of) (d : Nat) (n : Int) (nm : List UInt8) (x y : Ex) : toldN l (d + 1) (.mk 9 n nm [x, y]) = match toldN l d x with | .error e => .error e | .ok (some v) => .ok (some v) | .ok none => toldN l d y := by
  rw [told_succ]; unfold toldF toldG
  rw [show arg (.mk 9 n nm [x, y]) 0 = x from rfl, show arg (.mk 9 n nm [x, y]) 1 = y from rfl]
  cases toldN l d x with
  | error e => rfl
  | ok o => cases o <;> rfl
theorem told_if (l : List Of) (d : Nat) (n : Int) (nm : List UInt8) (c x y : Ex) : toldN l (d + 1) (.mk 10 n nm [c, x, y]) = match condN l d c with | .error e => .error e | .ok true => toldN l d x | .ok false => toldN l d y := by
  rw [told_succ]; unfold toldF toldG
  rw [show arg (.mk 10 n nm [c, x, y]) 0 = c from rfl, show arg (.mk 10 n nm [c, x, y]) 1 = x from rfl, show arg (.mk 10 n nm [c, x, y]) 2 = y from rfl]
  rfl
theorem cond_more (l : List Of) (d : Nat) (n : Int) (nm : List UInt8) (xs : List Ex) : condN l d (.mk 11 n nm xs) = .ok (decide (n < (l.length : Int))) := rfl
theorem cond_above (l : List Of) (d : Nat) (n : Int) (nm : List UInt8) (x y : Ex) : condN l d (.mk 12 n nm [x, y]) = match toldN l d x with | .error e => .error e | .ok a => match toldN l d y with | .error e => .error e | .ok b => .ok (match a, b with | some a, some b => decide (b < a) | _, _ => false) := rfl
theorem eval_yes {l : List Of} {x : Ex} (h : offsOk l = true) (h' : rightX x = true) : evalS l x = toldN l 32 x := by unfold evalS; rw [h, h']; rfl
theorem eval_low {l : List Of} (h : offsOk l = true) : evalS l (.mk 1 0 [] []) = .ok (rk l 0) := by
  rw [eval_yes h (right_leaf (.inl rfl) (by decide) (by simp) (by decide)), told_one _ _ _ rfl]
theorem eval_sec {l : List Of} (h : offsOk l = true) : evalS l (.mk 2 0 [] []) = .ok (rk l 1) := by
  rw [eval_yes h (right_leaf (.inr (.inl rfl)) (by decide) (by simp) (by decide)), told_two _ _ _ rfl]
theorem eval_from {l : List Of} (h : offsOk l = true) {s : List UInt8} (hs : isName s = true) : evalS l (.mk 3 0 s []) = .ok (fromO l s) := by
  rw [eval_yes h (right_leaf (.inr (.inr (.inl rfl))) (by decide) (by simpa using (name_parts hs).1) (fun _ => hs)), told_from _ _ _ rfl]; rfl
theorem eval_fix {l : List Of} (h : offsOk l = true) {n : Int} (hn : 0 ≤ n ∧ n ≤ 1000000000000) : evalS l (.mk 4 n [] []) = .ok (some n) := by
  rw [eval_yes h (right_leaf (.inr (.inr (.inr rfl))) hn (by simp) (by decide)), told_fix _ _ _ rfl]; rfl
end Go.Proofs.YtpehlldgnbajjaaGreatDoor

namespace Go.Proofs.YtpehlldgnbajjaaGreatDoor
open Go.Lib
set_option linter.unusedVariables false
set_option linter.unusedSimpArgs false

theorem prices_len (l : List Of) : (prices l).length = l.length := List.length_map ..
theorem rk_some (l : List Of) (n : Nat) : (rk l n).isSome = decide (n < l.length) := by
  unfold rk
  by_cases h : n < l.length
  · rw [List.getElem?_eq_getElem (by rw [srt_len, prices_len]; exact h)]; simp [h]
  · rw [List.getElem?_eq_none (by rw [srt_len, prices_len]; omega)]; simp [h]
theorem rk_mem {l : List Of} {n : Nat} {a : Int} (h : rk l n = some a) : ∃ o ∈ l, o.2 = a := by
  have := List.mem_of_getElem? h
  rw [mem_srt] at this
  exact List.mem_map.1 this
theorem rk_low {l : List Of} {a : Int} (h : rk l 0 = some a) : ∀ o ∈ l, a ≤ o.2 := by
  intro o ho
  unfold rk at h
  have hu := srt_up (prices l)
  have hm : o.2 ∈ srt (prices l) := mem_srt.2 (List.mem_map.2 ⟨o, ho, rfl⟩)
  cases e : srt (prices l) with
  | nil => rw [e] at hm; cases hm
  | cons b t =>
    rw [e] at h hm hu
    obtain rfl : b = a := by simpa using h
    rcases List.mem_cons.1 hm with h | h
    · omega
    · exact hu.1 _ h
/-- All but the one at i. -/
def less1 (l : List Of) (i : Nat) : List Of := l.take i ++ l.drop (i + 1)
theorem less1_perm {l : List Of} {i : Nat} (hi : i < l.length) : l.Perm (l[i] :: less1 l i) := by
  have e : l = l.take i ++ (l[i] :: l.drop (i + 1)) := by
    rw [← List.drop_eq_getElem_cons hi, List.take_append_drop]
  have h := List.perm_middle (a := l[i]) (l₁ := l.take i) (l₂ := l.drop (i + 1))
  rw [← e] at h
  exact h
theorem less1_len {l : List Of} {i : Nat} (hi : i < l.length) : (less1 l i).length = l.length - 1 := by
  unfold less1; rw [List.length_append, List.length_take, List.length_drop]; omega
theorem ins_first {a : Int} {s : List Int} (h : ∀ b ∈ s, a ≤ b) : ins a s = a :: s := by
  cases s with
  | nil => rfl
  | cons b t => unfold ins; rw [if_pos (h b (List.mem_cons_self ..))]
theorem rk_rest {l : List Of} {i : Nat} (hi : i < l.length) (h : rk l 0 = some l[i].2) : rk (less1 l i) 0 = rk l 1 := by
  have hp := less1_perm hi
  have hl := rk_low h
  rw [rk_perm hp 1]
  unfold rk prices
  rw [List.map_cons, srt, ins_first fun b hb => ?_]
  · rfl
  · rw [mem_srt] at hb
    obtain ⟨o, ho, rfl⟩ := List.mem_map.1 hb
    exact hl o (hp.mem_iff.2 (List.mem_cons_of_mem _ ho))
theorem offs_sub {l m : List Of} (h : offsOk l = true) (hs : m.Sublist l) : offsOk m = true := by
  rw [offs_nodup] at h ⊢
  exact ⟨by have := hs.length_le; omega, fun o ho => h.2.1 o (hs.subset ho), List.Nodup.sublist (hs.map _) h.2.2⟩
theorem less1_ok {l : List Of} (h : offsOk l = true) (i : Nat) : offsOk (less1 l i) = true := by
  refine offs_sub h ?_
  unfold less1
  rw [← List.eraseIdx_eq_take_drop_succ]
  exact List.eraseIdx_sublist ..
theorem le_perm {a b : List Int} (h : a.Perm b) (u : Int) : le u a = le u b := by rw [← le_srt u a, srt_perm h, le_srt]
theorem rk_less {l : List Of} {i n : Nat} (hi : i < l.length) {a c : Int} (h : rk l n = some a) (h' : rk (less1 l i) n = some c) : a ≤ c := by
  unfold rk at h h'
  have h1 := (srt_at h' c).1 (by omega)
  refine (srt_at h c).2 ?_
  have hp := le_perm ((less1_perm hi).map (·.2)) c
  unfold prices at h1 ⊢
  rw [hp, List.map_cons, le]
  omega
theorem le_set : ∀ (s : List Int) (k : Nat) (p : Int) (hk : k < s.length), p ≤ s[k] → ∀ u, le u s ≤ le u (s.set k p) := by
  intro s
  induction s with
  | nil => intro k p hk; simp at hk
  | cons a t ih =>
    intro k p hk hp u
    cases k with
    | zero =>
      have hp : p ≤ a := by simpa using hp
      rw [List.set_cons_zero, le, le]
      by_cases h : a ≤ u
      · rw [if_pos h, if_pos (by omega)]; omega
      · rw [if_neg h]; omega
    | succ k =>
      rw [List.set_cons_succ, le, le]
      have := ih k p (by simpa using hk) (by simpa using hp) u
      omega
theorem prices_set (l : List Of) (k : Nat) (o : Of) : prices (l.set k o) = (prices l).set k o.2 := by unfold prices; rw [List.map_set]
theorem rk_set {l : List Of} {k n : Nat} (hk : k < l.length) {p a b : Int} (hp : p ≤ l[k].2) (h : rk l n = some a) (h' : rk (l.set k (l[k].1, p)) n = some b) : b ≤ a := by
  unfold rk at h h'
  refine (srt_at h' a).2 ?_
  have h1 := (srt_at h a).1 (by omega)
  rw [prices_set]
  have := le_set (prices l) k p (by rw [prices_len]; exact hk) (by unfold prices; rw [List.getElem_map]; exact hp) a
  show n < le a ((prices l).set k p)
  omega
theorem set_ok {l : List Of} (h : offsOk l = true) {k : Nat} (hk : k < l.length) {p : Int} (h1 : 1 ≤ p) (h2 : p ≤ 1000000000000) : offsOk (l.set k (l[k].1, p)) = true := by
  rw [offs_nodup] at h ⊢
  refine ⟨by rw [List.length_set]; exact h.1, fun o ho => ?_, ?_⟩
  · rcases List.mem_or_eq_of_mem_set ho with ho | rfl
    · exact h.2.1 o ho
    · have := h.2.1 _ (List.getElem_mem hk)
      unfold offOk at this ⊢
      simp only [Bool.and_eq_true, decide_eq_true_eq] at this ⊢
      exact ⟨this.1, h1, h2⟩
  · rw [List.map_set, show (l[k].1, p).1 = (l.map (·.1))[k]'(by simpa using hk) by simp, List.set_getElem_self]
    exact h.2.2
/-- The greatest of what is told. -/
def Mon (v : Int) : Prop := -1000000000000 ≤ v ∧ v ≤ 1000000000000
theorem sub_mon {a n v : Int} (h : subR a n = .ok (some v)) : Mon v := by
  unfold subR at h
  split at h
  · injection h with h; injection h with h; subst h
    unfold two1 told1 rt Mon
    split
    · split
      · rename_i h; simpa using h
      · exact ⟨by decide, by decide⟩
    · exact ⟨by decide, by decide⟩
  · cases h
theorem offs_price {l : List Of} (h : offsOk l = true) {o : Of} (ho : o ∈ l) : 1 ≤ o.2 ∧ o.2 ≤ 1000000000000 := by
  have := (offs_nodup.1 h).2.1 o ho
  unfold offOk at this
  simp only [Bool.and_eq_true, decide_eq_true_eq] at this
  exact this.2
theorem rk_mon {l : List Of} (h : offsOk l = true) {n : Nat} {v : Int} (hv : rk l n = some v) : Mon v := by
  obtain ⟨o, ho, rfl⟩ := rk_mem hv
  have := offs_price h ho
  exact ⟨by omega, this.2⟩
theorem from_mem {l : List Of} {s : List UInt8} {v : Int} (h : fromO l s = some v) : ∃ o ∈ l, o.2 = v := by
  unfold fromO at h
  cases e : l.find? (fun o => decide (o.1 = s)) with
  | none => rw [e] at h; cases h
  | some o => rw [e] at h; exact ⟨o, List.mem_of_find?_eq_some e, by simpa using h⟩
theorem cut_mon {a n v : Int} (h : cutR a n = .ok (some v)) : Mon v := by
  unfold cutR at h
  split at h
  · exact sub_mon h
  · cases h
theorem told_mon (l : List Of) (hl : offsOk l = true) : ∀ (d : Nat) (x : Ex), fine d x = true → isCond x.k = false → ∀ v, toldN l d x = .ok (some v) → Mon v := by
  intro d
  induction d with
  | zero => intro x h; cases h
  | succ d ih =>
    intro x hx hc v hv
    cases x with
    | mk k n nm xs =>
      have hN : ∀ (i : Nat), (i : Int) < argsN k → (k = 10 → i ≠ 0) → ∀ v, toldN l d (arg (.mk k n nm xs) i) = .ok (some v) → Mon v := fun i hi h => by
        obtain ⟨_, e1, f, c⟩ := arg_fine hx hi
        rw [e1]
        refine ih _ f (by rw [c]; by_cases h10 : k = 10 <;> simp [h10, h])
      have hn := (fine_parts hx).2.1
      have hk := kind_list (k := k) (by obtain ⟨h1, _⟩ := fine_parts hx; omega)
      rcases hk with rfl | rfl | rfl | rfl | rfl | rfl | rfl | rfl | rfl | rfl | rfl | rfl
      · rw [told_one _ _ _ rfl] at hv
        injection hv with hv; exact rk_mon hl hv
      · rw [told_two _ _ _ rfl] at hv
        injection hv with hv; exact rk_mon hl hv
      · rw [told_from _ _ _ rfl] at hv
        injection hv with hv
        obtain ⟨o, ho, rfl⟩ := from_mem hv
        have := offs_price hl ho
        exact ⟨by omega, this.2⟩
      · rw [told_fix _ _ _ rfl] at hv
        injection hv with hv; injection hv with hv
        subst hv
        have : mostN 4 = 1000000000000 := rfl
        show Mon n
        exact ⟨by omega, by omega⟩
      · rw [told_succ] at hv; unfold toldF toldG at hv
        simp only [show (Ex.mk 5 n nm xs).k = 5 from rfl] at hv
        cases e : toldN l d (arg (.mk 5 n nm xs) 0) with
        | error _ => rw [e] at hv; cases hv
        | ok o =>
          rw [e] at hv
          cases o with
          | none => cases hv
          | some u => exact sub_mon hv
      · rw [told_succ] at hv; unfold toldF toldG at hv
        simp only [show (Ex.mk 6 n nm xs).k = 6 from rfl] at hv
        cases e : toldN l d (arg (.mk 6 n nm xs) 0) with
        | error _ => rw [e] at hv; cases hv
        | ok o =>
          rw [e] at hv
          cases o with
          | none => cases hv
          | some u => exact cut_mon hv
      · rw [told_succ] at hv; unfold toldF toldG at hv
        simp only [show (Ex.mk 7 n nm xs).k = 7 from rfl] at hv
        have h0 := hN 0 (by decide) (by omega)
        have h1 := hN 1 (by decide) (by omega)
        cases e : toldN l d (arg (.mk 7 n nm xs) 0) with
        | error _ => rw [e] at hv; cases hv
        | ok o =>
          rw [e] at hv
          cases e2 : toldN l d (arg (.mk 7 n nm xs) 1) with
          | error _ => rw [e2] at hv; cases hv
          | ok o2 =>
            rw [e2] at hv
            cases o with
            | none => cases hv
            | some a =>
              cases o2 with
              | none => cases hv
              | some b =>
                have ha := h0 a e
                have hb := h1 b e2
                have hv : some (min a b) = some v := by injection hv
                injection hv with hv
                unfold Mon at *
                omega
      · rw [told_succ] at hv; unfold toldF toldG at hv
        simp only [show (Ex.mk 8 n nm xs).k = 8 from rfl] at hv
        have h0 := hN 0 (by decide) (by omega)
        have h1 := hN 1 (by decide) (by omega)
        cases e : toldN l d (arg (.mk 8 n nm xs) 0) with
        | error _ => rw [e] at hv; cases hv
        | ok o =>
          rw [e] at hv
          cases e2 : toldN l d (arg (.mk 8 n nm xs) 1) with
          | error _ => rw [e2] at hv; cases hv
          | ok o2 =>
            rw [e2] at hv
            cases o with
            | none => cases hv
            | some a =>
              cases o2 with
              | none => cases hv
              | some b =>
                have ha := h0 a e
                have hb := h1 b e2
                have hv : some (max a b) = some v := by injection hv
                injection hv with hv
                unfold Mon at *
                omega
      · rw [told_succ] at hv; unfold toldF toldG at hv
        simp only [show (Ex.mk 9 n nm xs).k = 9 from rfl] at hv
        have h0 := hN 0 (by decide) (by omega)
        have h1 := hN 1 (by decide) (by omega)
        cases e : toldN l d (arg (.mk 9 n nm xs) 0) with
        | error _ => rw [e] at hv; cases hv
        | ok o =>
          rw [e] at hv
          cases o with
          | none => exact h1 v hv
          | some u =>
            have : some u = some v := by injection hv
            injection this with this
            subst this
            exact h0 u e
      · rw [told_succ] at hv; unfold toldF toldG at hv
        simp only [show (Ex.mk 10 n nm xs).k = 10 from rfl] at hv
        cases e : condF (toldN l d) l (arg (.mk 10 n nm xs) 0) with
        | error _ => rw [e] at hv; cases hv
        | ok b =>
          rw [e] at hv
          cases b with
          | true => exact hN 1 (by decide) (by omega) v hv
          | false => exact hN 2 (by decide) (by omega) v hv
      · cases hc
      · cases hc
theorem eval_mon {l : List Of} {x : Ex} {v : Int} (h : evalS l x = .ok (some v)) : Mon v := by
  unfold evalS at h
  split at h
  · rename_i hh
    rw [Bool.and_eq_true] at hh
    have hr := hh.2
    unfold rightX at hr
    simp only [Bool.and_eq_true, Bool.not_eq_true'] at hr
    exact told_mon l hh.1 32 x hr.1.1.1 hr.1.1.2 v h
  · cases h
theorem eval_err {l : List Of} {x : Ex} {e : Int} (h : evalS l x = .error e) : e = 1 ∨ e = 10 := by
  unfold evalS at h
  split at h
  · exact .inr (told_err _ _ _ _ h)
  · injection h with h; exact .inl h.symm
theorem condS_err {l : List Of} {x : Ex} {e : Int} (h : condS l x = .error e) : e = 1 ∨ e = 10 := by
  unfold condS at h
  split at h
  · exact .inr (cond_err _ _ _ _ h)
  · injection h with h; exact .inl h.symm
/-- A part of what is right, that is no condition, is right. -/
theorem right_part {k n : Int} {nm : List UInt8} {xs : List Ex} (h : rightX (.mk k n nm xs) = true) {i : Nat} (hi : i < xs.length) (hc : isCond xs[i].k = false) : rightX xs[i] = true ∧ fine 31 xs[i] = true := by
  unfold rightX at h
  simp only [Bool.and_eq_true, Bool.not_eq_true', decide_eq_true_eq] at h
  obtain ⟨⟨⟨h1, h2⟩, h3⟩, h4⟩ := h
  have hf := ((fine_parts h1).2.2.2.2 i hi).2
  have hm := List.getElem_mem hi
  have hs := size_mem hm
  rw [size_mk] at h3
  have hk : k ≠ 4 ∧ k ≠ 1 ∧ k ≠ 2 := by
    have ha := (fine_parts h1).1
    refine ⟨?_, ?_, ?_⟩ <;> (rintro rfl; have : (xs.length : Int) = 0 := ha.symm; omega)
  have ht : (text xs[i]).length ≤ (texts xs).length := by
    clear h1 h4 h2 h3 hf hs hc
    have hmo : ∀ (ys : List Ex) (y : Ex), y ∈ ys → (text y).length ≤ (mores ys).length := by
      intro ys
      induction ys with
      | nil => intro y hy; cases hy
      | cons z t ih =>
        intro y hy
        rw [mores_cons, List.length_append, List.length_append]
        rcases List.mem_cons.1 hy with rfl | hy
        · omega
        · have := ih y hy; omega
    cases xs with
    | nil => simp at hi
    | cons z t =>
      rw [texts_cons, List.length_append]
      rcases List.mem_cons.1 hm with e | hm
      · rw [e]; omega
      · have := hmo t _ hm; omega
  rw [text_mk, if_neg hk.1, if_neg (by omega)] at h4
  simp only [List.length_append] at h4
  refine ⟨?_, hf⟩
  unfold rightX
  rw [fine_less _ 31 32 hf (by have := fine_deep _ _ hf; omega), hc]
  simp
  omega
theorem eval_lift {l : List Of} {x : Ex} (h : offsOk l = true) (hr : rightX x = true) (hf : fine 31 x = true) : evalS l x = toldN l 31 x := by
  rw [eval_yes h hr]
  refine ((told_less l 31 32 (by omega) x hf).1 ?_)
  unfold rightX at hr
  simp only [Bool.and_eq_true, Bool.not_eq_true'] at hr
  exact hr.1.1.2
def both2 (k : Int) (x y : Ex) : Ex := .mk k 0 [] [x, y]
theorem eval_both {l : List Of} {k : Int} {x y : Ex} (hk : k = 7 ∨ k = 8) (h : offsOk l = true) (hr : rightX (both2 k x y) = true) (hx : rightX x = true) (hy : rightX y = true) (fx : fine 31 x = true) (fy : fine 31 y = true) :
    evalS l (both2 k x y) = match evalS l x with | .error e => .error e | .ok a => match evalS l y with | .error e => .error e | .ok b => .ok (bothF k a b) := by
  rw [eval_yes h hr, eval_lift h hx fx, eval_lift h hy fy]
  exact told_both l 31 k 0 [] x y hk
theorem eval_else {l : List Of} {x : Ex} (h : offsOk l = true) (hr : rightX (both2 9 x x) = true) (hx : rightX x = true) (fx : fine 31 x = true) : evalS l (both2 9 x x) = evalS l x := by
  rw [eval_yes h hr, eval_lift h hx fx]
  unfold both2
  rw [told_else l 31]
  cases toldN l 31 x with
  | error e => rfl
  | ok o => cases o <;> rfl
def more (n : Int) : Ex := .mk 11 n [] []
theorem eval_if {l : List Of} {n : Int} {x y : Ex} (h : offsOk l = true) (hr : rightX (.mk 10 0 [] [more n, x, y]) = true) (hx : rightX x = true) (hy : rightX y = true) (fx : fine 31 x = true) (fy : fine 31 y = true) :
    evalS l (.mk 10 0 [] [more n, x, y]) = if n < (l.length : Int) then evalS l x else evalS l y := by
  rw [eval_yes h hr, eval_lift h hx fx, eval_lift h hy fy, told_if l 31, show condN l 31 (more n) = .ok (decide (n < (l.length : Int))) from rfl]
  by_cases hn : n < (l.length : Int)
  · rw [if_pos hn, decide_eq_true hn]
  · rw [if_neg hn, decide_eq_false hn]
theorem cond_ok {l : List Of} {n : Int} (h : offsOk l = true) (h0 : 0 ≤ n) (h1 : n ≤ 1000) : condS l (more n) = .ok (decide (n < (l.length : Int))) := by
  have hr : rightX (ifX (more n)) = true := by
    have hfm : fine 31 (more n) = true := fine_leaf (.inr (.inr (.inr (.inr rfl)))) ⟨h0, h1⟩ (by simp) (by decide)
    have hfl : fine 31 exLw = true := fine_leaf (.inl rfl) (by decide) (by simp) (by decide)
    have hf : fine 32 (ifX (more n)) = true := fine_mk rfl (by decide) (by simp) (by decide) fun i hi => by
      have : i = 0 ∨ i = 1 ∨ i = 2 := by simp at hi; omega
      rcases this with rfl | rfl | rfl
      · exact ⟨rfl, hfm⟩
      · exact ⟨rfl, hfl⟩
      · exact ⟨rfl, hfl⟩
    have hs : size (ifX (more n)) = 4 := by unfold ifX more exLw; simp [size_mk, sizes_cons, sizes_nil]
    have ht := text_len _ _ hf
    unfold rightX
    rw [hf, hs]
    rw [hs] at ht
    simp only [Bool.and_eq_true, decide_eq_true_eq, Bool.not_eq_true']
    exact ⟨⟨⟨trivial, rfl⟩, by omega⟩, by omega⟩
  unfold condS
  rw [h, hr]
  rfl
end Go.Proofs.YtpehlldgnbajjaaGreatDoor

namespace Go.Proofs.YtpehlldgnbajjaaGreatDoor
open Go.Lib
set_option linter.unusedVariables false
set_option linter.unusedSimpArgs false

theorem fl9 {p : Int} : fl p * 10000 ≤ p ∧ p < fl p * 10000 + 10000 := by
  have h1 := Int.mul_tdiv_add_tmod p 10000
  have h2 := Int.tmod_lt_of_pos p (show (0 : Int) < 10000 by omega)
  have h3 : -10000 < p.tmod 10000 := by
    have := Int.tmod_lt_of_pos (-p) (show (0 : Int) < 10000 by omega)
    rw [Int.neg_tmod] at this; omega
  unfold fl
  split <;> omega
theorem fl9_eq {p q : Int} (h : q * 10000 ≤ p) (h' : p < q * 10000 + 10000) : fl p = q := by
  have := @fl9 p; omega
/-- A cut of a price: from 0 to the price; of nothing the price, of all of it 0. -/
theorem cut_price {a n : Int} (ha : 0 ≤ a) (ha' : a ≤ 1000000000000) (hn : 0 ≤ n) (hn' : n ≤ 10000) : ∃ b, cutR a n = .ok (some b) ∧ 0 ≤ b ∧ b ≤ a ∧ (n = 0 → b = a) ∧ (n = 10000 → b = 0) := by
  have h0 : 0 ≤ a * n := Int.mul_nonneg ha hn
  have h1 : a * n ≤ a * 10000 := Int.mul_le_mul_of_nonneg_left hn' ha
  have hf := @fl9 (a * n)
  have hp : 0 ≤ fl (a * n) ∧ fl (a * n) ≤ a := by omega
  have hr : rt a = true := by simp [rt]; omega
  have hw : wtM n (-100000) 100000 = true := by simp [wtM]; omega
  have hr2 : rt (fl (a * n)) = true := by simp [rt]; omega
  have hr3 : rt (a - fl (a * n)) = true := by simp [rt]; omega
  refine ⟨a - fl (a * n), ?_, by omega, by omega, ?_, ?_⟩
  · unfold cutR
    rw [show part2 a n false = 0 by simp [part2, hr, hw, prt, told2, hr2], if_pos rfl, show part1 a n false = fl (a * n) by simp [part1, hr, hw, prt, told1, hr2]]
    unfold subR
    rw [show two2 a (fl (a * n)) (a - fl (a * n)) = 0 by simp [two2, hr, hr2, told2, hr3], if_pos rfl, show two1 a (fl (a * n)) (a - fl (a * n)) = a - fl (a * n) by simp [two1, hr, hr2, told1, hr3]]
  · rintro rfl
    rw [fl9_eq (p := a * 0) (q := 0) (by omega) (by omega)]; omega
  · rintro rfl
    rw [fl9_eq (p := a * 10000) (q := a) (by omega) (by omega)]; omega
theorem sub_price {a n : Int} (ha : 0 ≤ a) (ha' : a ≤ 1000000000000) (hn : 0 ≤ n) (hn' : n ≤ 1000000000000) : subR a n = .ok (some (a - n)) := by
  have hr : rt a = true := by simp [rt]; omega
  have hr2 : rt n = true := by simp [rt]; omega
  have hr3 : rt (a - n) = true := by simp [rt]; omega
  unfold subR
  rw [show two2 a n (a - n) = 0 by simp [two2, hr, hr2, told2, hr3], if_pos rfl, show two1 a n (a - n) = a - n by simp [two1, hr, hr2, told1, hr3]]
def exLess (n : Int) (x : Ex) : Ex := .mk 5 n [] [x]
def exCut (n : Int) (x : Ex) : Ex := .mk 6 n [] [x]
theorem lw_size : size exLw = 1 := by unfold exLw; rw [size_mk, sizes_nil]
theorem lw_fine (d : Nat) : fine (d + 1) exLw = true := fine_leaf (.inl rfl) (by decide) (by simp) (by decide)
theorem eval_lessLow {l : List Of} (h : offsOk l = true) {n : Int} (h0 : 0 ≤ n) (h1 : n ≤ 1000000000000) : evalS l (exLess n exLw) = .ok ((rk l 0).map fun a => a - n) := by
  unfold exLess
  rw [eval_yes h (right_one (.inl rfl) ⟨h0, h1⟩ (lw_fine 30) rfl (by rw [lw_size]; omega)), told_less5, told_one _ _ _ rfl]
  cases e : rk l 0 with
  | none => rfl
  | some a =>
    have := rk_mem e
    obtain ⟨o, ho, rfl⟩ := this
    have := offs_price h ho
    simp only [Option.map_some]
    exact sub_price (by omega) this.2 h0 h1
theorem eval_cutLow {l : List Of} (h : offsOk l = true) {n : Int} (h0 : 0 ≤ n) (h1 : n ≤ 10000) : ∃ r, evalS l (exCut n exLw) = .ok r ∧ (rk l 0 = none → r = none) ∧ ∀ a, rk l 0 = some a → ∃ b, r = some b ∧ 0 ≤ b ∧ b ≤ a ∧ (n = 0 → b = a) ∧ (n = 10000 → b = 0) := by
  unfold exCut
  rw [eval_yes h (right_one (.inr rfl) ⟨h0, by show n ≤ 100000; omega⟩ (lw_fine 30) rfl (by rw [lw_size]; omega)), told_cut6, told_one _ _ _ rfl]
  cases e : rk l 0 with
  | none => exact ⟨none, rfl, fun _ => rfl, fun a h => by cases h⟩
  | some a =>
    obtain ⟨o, ho, rfl⟩ := rk_mem e
    have := offs_price h ho
    obtain ⟨b, hb, c⟩ := cut_price (a := o.2) (n := n) (by omega) this.2 h0 h1
    exact ⟨some b, hb, fun h => (by cases h), fun a h => (by injection h with h; subst h; exact ⟨b, rfl, c⟩)⟩
theorem eval_cutFix {l : List Of} (h : offsOk l = true) {n : Int} (h0 : 0 ≤ n) (h1 : n ≤ 1000000000000) : evalS l (exCut 10000 (.mk 4 n [] [])) = .ok (some 0) := by
  unfold exCut
  rw [eval_yes h (right_one (.inr rfl) ⟨by omega, by show (10000 : Int) ≤ 100000; omega⟩ (fine_leaf (.inr (.inr (.inr (.inl rfl)))) ⟨h0, h1⟩ (by simp) (by decide)) rfl (by rw [size_mk, sizes_nil]; omega)), told_cut6, told_fix _ _ _ rfl]
  obtain ⟨b, hb, _, _, _, h3⟩ := cut_price h0 h1 (show (0 : Int) ≤ 10000 by omega) (by omega)
  show cutR n 10000 = _
  rw [hb, h3 rfl]
theorem from_one {l : List Of} (hl : offsOk l = true) {i : Nat} (hi : i < l.length) : fromO l l[i].1 = some l[i].2 := (from_some (offs_nodup.1 hl).2.2).2 (List.getElem_mem hi)
theorem from_none {l : List Of} {s : List UInt8} (h : ∀ i (hi : i < l.length), l[i].1 ≠ s) : fromO l s = none := by
  unfold fromO
  rw [Option.map_eq_none_iff, List.find?_eq_none]
  intro o ho
  obtain ⟨i, hi, rfl⟩ := List.mem_iff_getElem.1 ho
  simpa using h i hi
theorem one_ok {l : List Of} (hl : offsOk l = true) {i : Nat} (hi : i < l.length) : offsOk [l[i]] = true := offs_sub hl (by
  rw [List.singleton_sublist]; exact List.getElem_mem hi)
/-- Who has a name stands at one place. -/
theorem name_once {l : List Of} (hl : offsOk l = true) {i j : Nat} (hi : i < l.length) (hj : j < l.length) (h : l[i].1 = l[j].1) : i = j := by
  have hn := (offs_iff.1 hl).2
  by_cases e : i = j
  · exact e
  · by_cases e' : i < j
    · exact absurd h ((hn j hj).2 i hi e')
    · exact absurd h.symm ((hn i hi).2 j hj (by omega))
/-- Two places, changed with one another. -/
theorem swap_perm {α : Type} (l : List α) (i j : Nat) (hi : i < l.length) (hj : j < l.length) : ((l.set i l[j]).set j l[i]).Perm l := by
  have h := Array.swap_perm (xs := l.toArray) (i := i) (j := j) (by simpa using hi) (by simpa using hj)
  have h := Array.perm_iff_toList_perm.1 h
  simpa [Array.swap] using h
end Go.Proofs.YtpehlldgnbajjaaGreatDoor

namespace Go.Proofs.YtpehlldgnbajjaaGreatDoor
open Go.RowKit Go.Lib
set_option linter.unusedVariables false
set_option linter.unusedSimpArgs false

def num (n : Int) : ByteArray := B (itoa n)
set_option maxHeartbeats 400000 in
theorem rdig_any (w0 : World) : ∀ (k : Nat) (n : Int), 0 ≤ n → n.toNat ≤ k → n ≤ 9223372036854775807 → ∀ w, Rel w0 w →
    Calls Tryz.prog 73 #[.int .i64 n] w fun e w' => e = .returned (.string (B (decDigits n.toNat))) ∧ Rel w0 w' := by
  intro k
  induction k with
  | zero =>
    intro n h0 hk h1 w hr
    obtain rfl : n = 0 := by omega
    have hconv : ∀ w : World, (convert 80 9 (.slice (some ⟨w.heap.size, 0, none⟩) 1 1)).run Tryz.prog (w.alloc (.cells #[.int .u8 48] 5)) = .ok (.string (B [dgt 0])) (w.alloc (.cells #[.int .u8 48] 5)) := fun w => byte_string w 0 (by omega) (by omega)
    go_enter Tryz.func73, Tryz.ntmps73
    go_wp2_with (fail)
    go_ret
    exact ⟨ret_str (by rw [dd_last (by omega) (by omega)]; rfl), hr.alloc _⟩
  | succ k ih =>
    intro n h0 hk h1 w hr
    have b1 : 0 ≤ n % 10 := by omega
    have b2 : n % 10 ≤ 9 := by omega
    have hconv := fun w : World => byte_string w (n % 10) b1 b2
    by_cases h : 10 ≤ n
    · have HS := Lib.hid (dd_step h0 h)
      have z1 := dd_size (n / 10) (by omega)
      have z2 : (B [dgt (n % 10)]).size ≤ 1 := Nat.le_refl _
      have z3 : ¬ 9223372036854775807 < (B (decDigits (n / 10).toNat)).size + (B [dgt (n % 10)]).size := by omega
      go_enter Tryz.func73, Tryz.ntmps73
      go_wp2_with ((go_at_call 73; (with_reducible refine (ih (n / 10) (by omega) (by omega) (by omega) _ (hr.alloc _)).mono ?_); rintro e w' ⟨rfl, hr'⟩))
      go_ret
      exact ⟨ret_str (by rw [HS.out, B_append]), hr'⟩
    · have HS := Lib.hid (dd_last h0 h)
      go_enter Tryz.func73, Tryz.ntmps73
      go_wp2_with (fail)
      go_ret
      exact ⟨ret_str (by rw [HS.out]), hr.alloc _⟩
theorem digits_any (n : Int) (h0 : 0 ≤ n) (h1 : n ≤ 9223372036854775807) (w0 w : World) (hr : Rel w0 w) :
    Calls Tryz.prog 73 #[.int .i64 n] w fun e w' => e = .returned (.string (B (decDigits n.toNat))) ∧ Rel w0 w' := rdig_any w0 _ n h0 (Nat.le_refl _) h1 w hr
theorem dash (x : List UInt8) : (⟨#[45]⟩ : ByteArray) ++ B x = B (45 :: x) := B_append [45] x
theorem num_neg (n : Int) (h : n < 0) : (⟨#[45]⟩ : ByteArray) ++ B (decDigits (-n).toNat) = num n := by
  unfold num itoa; rw [if_pos h, dash]; congr 3; omega
def tx (a : Int) : ByteArray := B (txt a)
theorem num_pos (n : Int) (h : 0 ≤ n) : num n = B (decDigits n.toNat) := by unfold num itoa; rw [if_neg (by omega)]
theorem num_size (n : Int) (h : 0 ≤ n) (h' : n ≤ 9223372036854775807) : (num n).size ≤ 19 := by rw [num_pos n h]; exact dd_size n h'
theorem tx_no {a : Int} (h : rt a = false) : (⟨#[]⟩ : ByteArray) = tx a := by unfold tx txt; rw [h]; rfl
theorem tx_parts (a : Int) (h : 0 ≤ a) (h' : a ≤ 1000000000000) : B (decDigits (a / 100).toNat) ++ (⟨#[46]⟩ : ByteArray) ++ B (decDigits (a / 10 % 10).toNat) ++ B (decDigits (a % 10).toNat) = tx a := by
  have e : (⟨#[46]⟩ : ByteArray) = B [46] := rfl
  rw [e, B_append, B_append, B_append]
  unfold tx txt
  rw [rt_yes (by omega) h', if_pos rfl, if_neg (by omega)]
  unfold pos
  rw [show (a / 100).toNat = a.natAbs / 100 by omega, show (a / 10 % 10).toNat = a.natAbs / 10 % 10 by omega, show (a % 10).toNat = a.natAbs % 10 by omega]
  simp
theorem tx_neg (a : Int) (h : a < 0) (h' : -1000000000000 ≤ a) : (⟨#[45]⟩ : ByteArray) ++ tx (-a) = tx a := by
  unfold tx
  rw [dash]
  unfold txt
  rw [rt_yes (a := -a) (by omega) (by omega), rt_yes (a := a) h' (by omega), if_pos rfl, if_pos rfl, if_neg (by omega), if_pos h, show (-a).natAbs = a.natAbs by omega]
theorem tx_size (a : Int) : (tx a).size ≤ 43 := by
  unfold tx txt
  rw [B_size]
  split
  · rename_i h
    have hb := rt_iff.1 h
    have h1 : (pos a.natAbs).length ≤ 22 := by
      unfold pos
      have := nd_le 12 (a.natAbs / 100) (by have e : 10 ^ 12 = 1000000000000 := by decide
                                            omega) (by omega)
      rw [decDigits_one (show a.natAbs / 10 % 10 < 10 by omega), decDigits_one (show a.natAbs % 10 < 10 by omega)]
      simp; omega
    split <;> simp <;> omega
  · simp
set_option maxHeartbeats 400000 in
theorem rtext_pos (a : Int) (h0 : 0 ≤ a) (h1 : a ≤ 1000000000000) (w0 w : World) (hr : Rel w0 w) :
    Calls Tryz.prog 62 #[.int .i64 a] w fun e w' => e = .returned (.string (tx a)) ∧ Rel w0 w' := by
  have z1 := dd_size (a / 100) (by omega)
  have z2 := dd_size (a / 10 % 10) (by omega)
  have z3 := dd_size (a % 10) (by omega)
  have HS := Lib.hid (tx_parts a h0 h1)
  go_enter Tryz.func62, Tryz.ntmps62
  go_wp2_with ((go_at_call 73; (with_reducible refine (digits_any _ (by omega) (by omega) _ _ (by assumption)).mono ?_); rintro e w' ⟨rfl, hr'⟩))
  go_ret
  exact ⟨ret_str HS.out, by assumption⟩
set_option maxHeartbeats 400000 in
theorem rtext_any (a : Int) (h0 : -9223372036854775808 ≤ a) (h1 : a ≤ 9223372036854775807) (w0 w : World) (hr : Rel w0 w) :
    Calls Tryz.prog 62 #[.int .i64 a] w fun e w' => e = .returned (.string (tx a)) ∧ Rel w0 w' := by
  by_cases b1 : a < -1000000000000
  · have HS := Lib.hid (tx_no (a := a) (rt_no (.inl b1)))
    go_enter Tryz.func62, Tryz.ntmps62
    go_wp2_with (fail)
    go_ret
    exact ⟨ret_str HS.out, hr⟩
  · by_cases b2 : 1000000000000 < a
    · have HS := Lib.hid (tx_no (a := a) (rt_no (.inr b2)))
      go_enter Tryz.func62, Tryz.ntmps62
      go_wp2_with (fail)
      go_ret
      exact ⟨ret_str HS.out, hr⟩
    · by_cases hn : 0 ≤ a
      · exact rtext_pos a hn (by omega) w0 w hr
      · have HS := Lib.hid (tx_neg a (by omega) (by omega))
        have z1 := tx_size (-a)
        go_enter Tryz.func62, Tryz.ntmps62
        go_wp2_with ((go_at_call 62; (with_reducible refine (rtext_pos _ (by omega) (by omega) _ _ (by assumption)).mono ?_); rintro e w' ⟨rfl, hr'⟩))
        go_ret
        exact ⟨ret_str HS.out, by assumption⟩
theorem width_pos (s : ByteArray) (pos : Nat) (h : pos < s.size) : 1 ≤ (Utf8.decode s pos).2 := by
  by_cases ha : (s[pos]'h).toNat < 128
  · rw [decode_ascii s pos h ha]
    exact Nat.le_refl _
  · exact (decode_high s pos h (by omega)).2
theorem drop_step (s : ByteArray) (pos : Nat) (h : pos < s.size) : s.data.toList.drop pos = (s[pos]'h) :: s.data.toList.drop (pos + 1) := by
  rw [List.drop_eq_getElem_cons (by simpa using h)]
  rfl
theorem drop_end (s : ByteArray) (pos : Nat) (h : ¬ pos < s.size) : s.data.toList.drop pos = [] := by
  apply List.drop_eq_nil_of_le
  have : s.data.toList.length = s.size := by simp
  omega
theorem B_zero (c : UInt8) (t : List UInt8) (h : 0 < (B (c :: t)).size) : (B (c :: t))[0]'h = c := rfl
theorem take_snoc (l : List UInt8) (k : Nat) (h : k < l.length) : l.take (k + 1) = l.take k ++ [l[k]] := by
  rw [List.take_succ_eq_append_getElem h]
theorem val_snoc (t : List UInt8) (c : UInt8) : val (t ++ [c]) 0 = val t 0 * 10 + ((c.toNat : Int) - 48) := by rw [val_append]; rfl
theorem allD_snoc (t : List UInt8) (c : UInt8) : allD (t ++ [c]) = (allD t && isD c) := by rw [allD_append]; simp [allD]
theorem allD_take {l : List UInt8} (k : Nat) (h : allD (l.take k) = false) : allD l = false := by
  cases e : allD l
  · rfl
  · unfold allD at e h
    rw [List.all_eq_true] at e
    rw [← Bool.not_eq_true, List.all_eq_true] at h
    exact absurd (fun x hx => e x (List.mem_of_mem_take hx)) h
theorem B_extract (l : List UInt8) (j : Nat) : (B l).extract 0 j = B (l.take j) := by
  apply ByteArray.ext
  simp [B]
theorem B_tail (c : UInt8) (r : List UInt8) : (B (c :: r)).extract 1 (r.length + 1) = B r := by
  apply ByteArray.ext
  simp [B]
theorem rtext_at (x A : Int) (h : x = A) (h0 : -9223372036854775808 ≤ x) (h1 : x ≤ 9223372036854775807) (w0 w : World) (hr : Rel w0 w) :
    Calls Tryz.prog 62 #[.int .i64 x] w fun e w' => e = .returned (.string (tx A)) ∧ Rel w0 w' := by subst h; exact rtext_any x h0 h1 w0 w hr
theorem tx_toList (a : Int) : (tx a).toList = txt a := B_toList _
theorem none1 {l : List UInt8} (h : prs l = none) : 0 = prs1 l := by unfold prs1; rw [h]; rfl
theorem none2 {l : List UInt8} (h : prs l = none) : 20 = prs2 l := by unfold prs2; rw [h]; rfl
theorem some1 {l : List UInt8} {a : Int} (h : prs l = some a) : a = prs1 l := by unfold prs1; rw [h]; rfl
theorem some2 {l : List UInt8} {a : Int} (h : prs l = some a) : 0 = prs2 l := by unfold prs2; rw [h]; rfl
theorem parts_at {t : List UInt8} {m : Nat} (h : t.length = m + 4) (hd : t[m + 1]? = some 46) : ∃ c d, t = t.take (m + 1) ++ [46, c, d] ∧ t[m + 2]? = some c ∧ t[m + 3]? = some d := by
  have := ref_parts (t := t) (by omega) (by rw [h]; exact hd)
  rw [h] at this
  exact this
theorem B_at {t : List UInt8} {k : Nat} {c : UInt8} (h : t[k]? = some c) (hh : k < (B t).size) : (B t)[k]'hh = c := by
  have e : (B t)[k]'hh = t[k]'(by rw [B_size] at hh; exact hh) := rfl
  rw [e]
  rw [List.getElem?_eq_getElem (by rw [B_size] at hh; exact hh)] at h
  exact Option.some.inj h
end Go.Proofs.YtpehlldgnbajjaaGreatDoor
