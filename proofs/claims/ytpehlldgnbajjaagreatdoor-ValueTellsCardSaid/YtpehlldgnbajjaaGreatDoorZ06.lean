/- The law's Strategy; Raw numbers as an argument, opened; Plain mathematics of layer 9: offers, and prices in rising order. No program in this text; Plain mathematics of layer 9: what strategies tell. No program in this text; Offers in memory: to be read, and of the call's own; Plain mathematics of layer 9: order makes no difference; what is reckoned within more is reckoned the same; offers of raw numbers. No program in this text. -/
import Derived.Test.YtpehlldgnbajjaaGreatDoorZ05
import Derived.Test.YtpehlldgnbajjaaGreatDoorZ02
import Derived.Test.YtpehlldgnbajjaaGreatDoorZ01
import Derived.Test.YtpehlldgnbajjaaGreatDoorZ03
namespace Go.Proofs.YtpehlldgnbajjaaGreatDoor
open Go.RowKit Go.Lib
set_option linter.unusedVariables false
set_option linter.unusedSimpArgs false

theorem expr_all : ∀ d, d ≤ 10 → ExprAt d := by
  intro d
  induction d with
  | zero =>
    intro _ c L g w0 w hr hg hs
    cases c with
    | true => exact expr_cond 0 (by omega) (fun d' h => by omega) L g w0 w hr hg hs
    | false => exact expr_tree 0 (by omega) (fun d' h => by omega) L g w0 w hr hg hs
  | succ d ih =>
    intro hd c L g w0 w hr hg hs
    have H : ∀ d', d + 1 = d' + 1 → ExprAt d' := fun d' h => by
      have : d' = d := by omega
      subst this; exact ih (by omega)
    cases c with
    | true => exact expr_cond (d + 1) hd H L g w0 w hr hg hs
    | false => exact expr_tree (d + 1) hd H L g w0 w hr hg hs
theorem expr5 (L : List Int) (x : Ex) (L' : List Int) (hx : Hid (gen 5 false L = (x, L'))) (g : Nat) (w0 w : World) (hr : Rel w0 w) (hg : w0.heap.size ≤ g) (hs : SrcAt w g L) :
    Calls Tryz.prog 21 #[.pointer (some ⟨g, 0, none⟩), .int .i64 5, .bool false] w fun e w' => ∃ v : El, e = .returned (EV v) ∧ ExAt (fun k => w.heap.size ≤ k) w' v x ∧ SrcAt w' g L' ∧ w.grownBy w' (some g) :=
  expr_as (d := 4) (expr_all 4 (by omega)) false L x L' hx g w0 w hr hg hs
/-- Raw numbers as an argument. -/
def IntsIn (w : World) (A : Option Addr) (c : Nat) (L : List Int) : Prop := L.length ≤ c ∧ c ≤ maxLen ∧ (∀ z ∈ L, i64 z) ∧ ∀ i (h : i < L.length), ∃ a : Addr, A = some a ∧ a.block < w.heap.size ∧ w.cell? (a.add i) = some (.int .i64 L[i])
theorem IntsIn.rel {w w' : World} {A : Option Addr} {c : Nat} {L : List Int} (h : IntsIn w A c L) (hr : Rel w w') : IntsIn w' A c L := by
  obtain ⟨h1, h2, h3, h4⟩ := h
  refine ⟨h1, h2, h3, fun i hi => ?_⟩
  obtain ⟨a, e, hl, hc⟩ := h4 i hi
  have := hr.size
  exact ⟨a, e, by omega, (hr.2.cell (p := a.add i) (by rw [block_add]; exact hl)).trans hc⟩
set_option maxHeartbeats 2000000 in
theorem strat_any (A : Option Addr) (c : Nat) (L : List Int) (w0 w : World) (hr : Rel w0 w) (h : IntsIn w A c L) :
    Calls Tryz.prog 9 #[.slice A L.length c] w fun e w' => ∃ v : El, e = .returned (EV v) ∧ ExAt (fun k => w.heap.size ≤ k) w' v (strat L) ∧ Rel w0 w' := by
  have HR := Lib.hid hr
  have HS := Lib.hid hr.self
  have HB := Lib.hid (Bk.new w 31 #[.int .i64 0, .int .i64 0, .string ⟨#[]⟩, .slice none 0 0])
  have h1 := h.1
  have h2 := h.2.1
  have HI := Lib.hid h
  have key : ∀ (L' : List Int) (c' : Nat), IntsIn w A c' L' → Hid (SrcAt ((w.alloc (.cells #[.int .i64 0, .int .i64 0, .string ⟨#[]⟩, .slice none 0 0] 31)).alloc (.cells #[.slice A L'.length c'] 54)) (w.heap.size + 1) L') := fun L' c' hi => Lib.hid ⟨A, c', Bk.snd w _ _ _ _, hi.1, hi.2.1, hi.2.2.1, fun i hi' => by
    obtain ⟨a, e, hl, hc⟩ := hi.2.2.2 i hi'
    exact ⟨a, e, by omega, (((HS.out.alloc _).alloc _).2.cell (p := a.add i) (by rw [block_add]; exact hl)).trans hc⟩⟩
  by_cases hl : L.length ≤ 100
  · have HSr := key L c h
    obtain ⟨⟨x, L3⟩, hx⟩ : ∃ p, gen 5 false L = p := ⟨_, rfl⟩
    have HX := Lib.hid hx
    have HF := Lib.hid (show strat L = x by unfold strat; rw [List.take_of_length_le hl, hx])
    have HRW := Lib.hid ((HS.out.alloc (.cells #[.int .i64 0, .int .i64 0, .string ⟨#[]⟩, .slice none 0 0] 31)).alloc (.cells #[.slice A L.length c] 54))
    have HB1 := Lib.hid (HB.out.alloc (.cells #[.slice A L.length c] 54))
    have hzz : ((w.alloc (.cells #[.int .i64 0, .int .i64 0, .string ⟨#[]⟩, .slice none 0 0] 31)).alloc (.cells #[.slice A L.length c] 54)).heap.size = w.heap.size + 2 := by rw [World.size_alloc, World.size_alloc]
    have HZ := Lib.hid hzz
    have hlen : (L.length : Int) ≤ 100 := by omega
    clear key h hx hzz
    go_enter Tryz.func9, Tryz.ntmps9
    go_wp2_with (go_at_call 21; (with_reducible refine (expr5 L x L3 HX (w.heap.size + 1) _ _ HRW.out (by omega) HSr.out).mono ?_); rintro e w2 ⟨vx, rfl, ex, s2, g2⟩; obtain ⟨⟨c0, c1, c2, c3⟩, f0, f1, f2, f3⟩ := (HB1.out.grown g2 (fun e => by injection e; omega)).four)
    have gp := put4_grown w2 w.heap.size (.int .i64 vx.1) (.int .i64 vx.2.1) (.string (B vx.2.2.1)) (.slice vx.2.2.2.1 vx.2.2.2.2.1 vx.2.2.2.2.2)
    obtain ⟨⟨t0, t1, t2, t3⟩, _⟩ := ((HB1.out.grown g2 (fun e => by injection e; omega)).put4 (.int .i64 vx.1) (.int .i64 vx.2.1) (.string (B vx.2.2.1)) (.slice vx.2.2.2.1 vx.2.2.2.2.1 vx.2.2.2.2.2)).four
    have hz2 := g2.size
    have hz := HZ.out
    refine bodyPost_ret (v := EV vx) (by simp [results, Tryz.results9, go_sem, t0, t1, t2, t3]) rfl ⟨vx, rfl, ?_, ?_⟩
    · rw [HF.out]; exact ex.grown gp (fun q hq => ⟨by omega, fun e => by injection e; omega⟩)
    · exact HR.out.trans (Rel.grown (Rel.grown HRW.out g2 (fun k e => by cases e; omega)) gp (fun k e => by cases e; exact Nat.le_refl _))
  · have e100 : (L.take 100).length = 100 := by rw [List.length_take]; omega
    have HSr := key (L.take 100) c ⟨by omega, h2, fun z hz => h.2.2.1 z (List.mem_of_mem_take hz), fun i hi => by
      obtain ⟨a, e, hl, hc⟩ := h.2.2.2 i (by rw [List.length_take] at hi; omega)
      exact ⟨a, e, hl, by rw [List.getElem_take]; exact hc⟩⟩
    rw [e100] at HSr
    obtain ⟨⟨x, L3⟩, hx⟩ : ∃ p, gen 5 false (L.take 100) = p := ⟨_, rfl⟩
    have HX := Lib.hid hx
    have HF := Lib.hid (show strat L = x by unfold strat; rw [hx])
    have HRW := Lib.hid ((HS.out.alloc (.cells #[.int .i64 0, .int .i64 0, .string ⟨#[]⟩, .slice none 0 0] 31)).alloc (.cells #[.slice A 100 c] 54))
    have HB1 := Lib.hid (HB.out.alloc (.cells #[.slice A 100 c] 54))
    have hzz : ((w.alloc (.cells #[.int .i64 0, .int .i64 0, .string ⟨#[]⟩, .slice none 0 0] 31)).alloc (.cells #[.slice A 100 c] 54)).heap.size = w.heap.size + 2 := by rw [World.size_alloc, World.size_alloc]
    have HZ := Lib.hid hzz
    have hlen : (100 : Int) < (L.length : Int) := by omega
    clear key h hx hzz
    go_enter Tryz.func9, Tryz.ntmps9
    go_wp2_with (go_at_call 21; (with_reducible refine (expr5 (L.take 100) x L3 HX (w.heap.size + 1) _ _ HRW.out (by omega) HSr.out).mono ?_); rintro e w2 ⟨vx, rfl, ex, s2, g2⟩; obtain ⟨⟨c0, c1, c2, c3⟩, f0, f1, f2, f3⟩ := (HB1.out.grown g2 (fun e => by injection e; omega)).four)
    have gp := put4_grown w2 w.heap.size (.int .i64 vx.1) (.int .i64 vx.2.1) (.string (B vx.2.2.1)) (.slice vx.2.2.2.1 vx.2.2.2.2.1 vx.2.2.2.2.2)
    obtain ⟨⟨t0, t1, t2, t3⟩, _⟩ := ((HB1.out.grown g2 (fun e => by injection e; omega)).put4 (.int .i64 vx.1) (.int .i64 vx.2.1) (.string (B vx.2.2.1)) (.slice vx.2.2.2.1 vx.2.2.2.2.1 vx.2.2.2.2.2)).four
    have hz2 := g2.size
    have hz := HZ.out
    refine bodyPost_ret (v := EV vx) (by simp [results, Tryz.results9, go_sem, t0, t1, t2, t3]) rfl ⟨vx, rfl, ?_, ?_⟩
    · rw [HF.out]; exact ex.grown gp (fun q hq => ⟨by omega, fun e => by injection e; omega⟩)
    · exact HR.out.trans (Rel.grown (Rel.grown HRW.out g2 (fun k e => by cases e; omega)) gp (fun k e => by cases e; exact Nat.le_refl _))
end Go.Proofs.YtpehlldgnbajjaaGreatDoor

namespace Go.Proofs.YtpehlldgnbajjaaGreatDoor
open Go.RowKit Go.Lib
set_option linter.unusedVariables false
set_option linter.unusedSimpArgs false

/-- A row of numbers, as the card opens it: all that it has room for. -/
def IsRow (k : IntKind) (w : World) (a : Option Addr) (len cap : Nat) (zs : List Int) : Prop :=
  (a = none ∧ len = 0 ∧ cap = 0 ∧ zs = []) ∨ ∃ x : Addr, a = some x ∧ len ≤ cap ∧ cap ≤ maxLen ∧ zs.length = cap ∧ (∀ j, j < zs.length → w.cell? (x.add j) = some (.int k (zs.getD j 0))) ∧ ∀ u ∈ zs, (Lit.int k u).wf = true
theorem wf64 {a : Int} (h : (Lit.int .i64 a).wf = true) : i64 a := by
  have := bounds_i64 h; exact ⟨by omega, by omega⟩
theorem ints_of {w : World} {a : Option Addr} {len cap : Nat} {z : List Int} (h : IsRow .i64 w a len cap z) : ∃ L : List Int, len = L.length ∧ IntsIn w a cap L := by
  rcases h with ⟨rfl, rfl, rfl, rfl⟩ | ⟨x, rfl, hl, hm, hz, hcell, hwz⟩
  · exact ⟨[], rfl, Nat.le_refl _, Nat.zero_le _, fun z hz => (by cases hz), fun i hi => absurd hi (by simp)⟩
  · have e : (z.take len).length = len := by rw [List.length_take]; omega
    refine ⟨z.take len, e.symm, by omega, hm, fun u hu => wf64 (hwz u (List.mem_of_mem_take hu)), fun i hi => ?_⟩
    rw [e] at hi
    have hc := hcell i (by omega)
    have eg : z.getD i 0 = (z.take len)[i]'(by rw [e]; exact hi) := by
      rw [List.getElem_take, List.getD_eq_getElem?_getD, List.getElem?_eq_getElem (by omega)]; rfl
    rw [eg] at hc
    exact ⟨x, rfl, by have := blk_of_cell hc; rwa [block_add] at this, hc⟩
end Go.Proofs.YtpehlldgnbajjaaGreatDoor

namespace Go.Proofs.YtpehlldgnbajjaaGreatDoor
open Go.Lib
set_option linter.unusedVariables false
set_option linter.unusedSimpArgs false

/-- A number put among others in rising order; all of them in rising order. -/
def ins (a : Int) : List Int → List Int
  | [] => [a]
  | b :: t => if a ≤ b then a :: b :: t else b :: ins a t
def srt : List Int → List Int
  | [] => []
  | a :: t => ins a (srt t)
/-- How many are at most u; below u. -/
def le (u : Int) : List Int → Nat
  | [] => 0
  | a :: t => (if a ≤ u then 1 else 0) + le u t
theorem ins_len (a : Int) (l : List Int) : (ins a l).length = l.length + 1 := by
  induction l with
  | nil => rfl
  | cons b t ih => unfold ins; split <;> simp [ih]
theorem srt_len (l : List Int) : (srt l).length = l.length := by
  induction l with
  | nil => rfl
  | cons a t ih => rw [srt, ins_len, ih]; rfl
theorem ins_ins (a b : Int) (l : List Int) : ins a (ins b l) = ins b (ins a l) := by
  induction l with
  | nil =>
    by_cases h : a ≤ b
    · by_cases h' : b ≤ a
      · obtain rfl : a = b := by omega
        rfl
      · simp [ins, h, h']
    · have h' : b ≤ a := by omega
      simp [ins, h, h']
  | cons c t ih =>
    simp only [ins]
    by_cases h1 : b ≤ c <;> by_cases h2 : a ≤ c <;> simp only [h1, h2, if_true, if_false, ins]
    · by_cases h : a ≤ b
      · by_cases h' : b ≤ a
        · obtain rfl : a = b := by omega
          rfl
        · simp only [h, h', if_true, if_false, h1]
      · have h' : b ≤ a := by omega
        simp only [h, h', if_true, if_false, h2]
    · rw [if_neg (show ¬ a ≤ b by omega)]
    · rw [if_neg (show ¬ b ≤ a by omega)]
    · rw [ih]
theorem srt_perm {a b : List Int} (h : a.Perm b) : srt a = srt b := by
  induction h with
  | nil => rfl
  | cons x _ ih => rw [srt, srt, ih]
  | swap x y l => simp only [srt]; rw [ins_ins]
  | trans _ _ h1 h2 => rw [h1, h2]
def Up : List Int → Prop
  | [] => True
  | a :: t => (∀ b ∈ t, a ≤ b) ∧ Up t
theorem mem_ins {a x : Int} {l : List Int} : x ∈ ins a l ↔ x = a ∨ x ∈ l := by
  induction l with
  | nil => simp [ins]
  | cons b t ih =>
    unfold ins
    split
    · simp
    · simp [ih]
      constructor
      · rintro (h | h | h) <;> simp [h]
      · rintro (h | h | h) <;> simp [h]
theorem ins_up {a : Int} {l : List Int} (h : Up l) : Up (ins a l) := by
  induction l with
  | nil => exact ⟨fun b hb => (by cases hb), trivial⟩
  | cons b t ih =>
    unfold ins
    split
    · rename_i hab
      refine ⟨fun c hc => ?_, h⟩
      rcases List.mem_cons.1 hc with rfl | hc
      · exact hab
      · have := h.1 c hc; omega
    · rename_i hab
      refine ⟨fun c hc => ?_, ih h.2⟩
      rcases mem_ins.1 hc with rfl | hc
      · omega
      · exact h.1 c hc
theorem srt_up (l : List Int) : Up (srt l) := by
  induction l with
  | nil => trivial
  | cons a t ih => exact ins_up ih
theorem mem_srt {x : Int} {l : List Int} : x ∈ srt l ↔ x ∈ l := by
  induction l with
  | nil => simp [srt]
  | cons a t ih => rw [srt, mem_ins, ih]; simp
theorem le_ins (u a : Int) (l : List Int) : le u (ins a l) = (if a ≤ u then 1 else 0) + le u l := by
  induction l with
  | nil => rfl
  | cons b t ih =>
    unfold ins
    split
    · rfl
    · simp only [le, ih]; omega
theorem le_srt (u : Int) (l : List Int) : le u (srt l) = le u l := by
  induction l with
  | nil => rfl
  | cons a t ih => rw [srt, le_ins, ih]; rfl
theorem le_none {u : Int} {l : List Int} (h : ∀ b ∈ l, u < b) : le u l = 0 := by
  induction l with
  | nil => rfl
  | cons a t ih =>
    have := h a (List.mem_cons_self ..)
    rw [le, if_neg (by omega), ih fun b hb => h b (List.mem_cons_of_mem _ hb)]
theorem up_get : ∀ {s : List Int}, Up s → ∀ (n : Nat) (v : Int), s[n]? = some v → ∀ u, v ≤ u ↔ n < le u s := by
  intro s
  induction s with
  | nil => intro _ n v h; simp at h
  | cons a t ih =>
    intro hs n v h u
    cases n with
    | zero =>
      obtain rfl : a = v := by simpa using h
      rw [le]
      by_cases hu : a ≤ u
      · rw [if_pos hu]; omega
      · rw [if_neg hu, le_none fun b hb => by have := hs.1 b hb; omega]; omega
    | succ n =>
      have h' : t[n]? = some v := by simpa using h
      have hv : a ≤ v := hs.1 v (List.mem_of_getElem? h')
      rw [le]
      by_cases hu : a ≤ u
      · rw [if_pos hu]
        have := ih hs.2 n v h' u
        omega
      · rw [if_neg hu, le_none fun b hb => by have := hs.1 b hb; omega]; omega
/-- What stands at place n in rising order: v, just if at most n are below v, and more than n are at most v. -/
theorem srt_at {l : List Int} {n : Nat} {v : Int} (h : (srt l)[n]? = some v) (u : Int) : v ≤ u ↔ n < le u l := by
  rw [up_get (srt_up l) n v h u, le_srt]
theorem srt_is {l : List Int} {n : Nat} {v : Int} (h1 : n < le v l) (h2 : le (v - 1) l ≤ n) (h3 : n < l.length) : (srt l)[n]? = some v := by
  have hl : n < (srt l).length := by rw [srt_len]; exact h3
  have h := List.getElem?_eq_getElem hl
  rw [h]
  have a := (srt_at h v).2 h1
  have b := (srt_at h (v - 1))
  congr 1; omega
theorem le_append (u : Int) (a b : List Int) : le u (a ++ b) = le u a + le u b := by
  induction a with
  | nil => simp [le]
  | cons x t ih => rw [List.cons_append, le, le, ih]; omega
theorem le_len (u : Int) (a : List Int) : le u a ≤ a.length := by
  induction a with
  | nil => simp [le]
  | cons x t ih => rw [le, List.length_cons]; split <;> omega
/-- How many of the first j stand ahead of the one at i: they are lower, or as low and ahead of it. -/
def ah (l : List Int) (v : Int) (i : Nat) : Nat → Nat
  | 0 => 0
  | j + 1 => ah l v i j + (match l[j]? with | some p => if p < v ∨ p = v ∧ j < i then 1 else 0 | none => 0)
/-- How many of the first j are v. -/
def eqs (l : List Int) (v : Int) (j : Nat) : Nat := le v (l.take j) - le (v - 1) (l.take j)
theorem le_mono {u v : Int} (h : u ≤ v) (l : List Int) : le u l ≤ le v l := by
  induction l with
  | nil => simp [le]
  | cons a t ih =>
    rw [le, le]
    by_cases h1 : a ≤ u
    · rw [if_pos h1, if_pos (by omega)]; omega
    · rw [if_neg h1]; omega
theorem le_take {l : List Int} {j : Nat} (h : j < l.length) (u : Int) : le u (l.take (j + 1)) = le u (l.take j) + (if l[j] ≤ u then 1 else 0) := by
  rw [List.take_succ_eq_append_getElem h, le_append]; rfl
theorem ah_is (l : List Int) (v : Int) (i : Nat) (hi : i ≤ l.length) : ∀ j, j ≤ l.length → ah l v i j = le (v - 1) (l.take j) + (le v (l.take (min j i)) - le (v - 1) (l.take (min j i))) := by
  intro j
  induction j with
  | zero => intro _; simp [ah, le]
  | succ j ih =>
    intro hj
    have hj' : j < l.length := by omega
    rw [ah, ih (by omega), List.getElem?_eq_getElem hj', le_take hj']
    simp only
    by_cases hji : j < i
    · rw [show min (j + 1) i = j + 1 by omega, show min j i = j by omega, le_take hj', le_take hj']
      have := le_mono (show v - 1 ≤ v by omega) (l.take j)
      by_cases h1 : l[j] < v
      · rw [if_pos (.inl h1), if_pos (by omega), if_pos (by omega)]; omega
      · by_cases h2 : l[j] = v
        · rw [if_pos (.inr ⟨h2, hji⟩), if_neg (by omega), if_pos (by omega)]; omega
        · rw [if_neg (by omega), if_neg (by omega), if_neg (by omega)]; omega
    · rw [show min (j + 1) i = min j i by omega]
      by_cases h1 : l[j] < v
      · rw [if_pos (.inl h1), if_pos (by omega)]; omega
      · rw [if_neg (by omega), if_neg (by omega)]; omega
theorem ah_full {l : List Int} {i : Nat} (hi : i < l.length) : ah l l[i] i l.length = le (l[i] - 1) l + (le l[i] (l.take i) - le (l[i] - 1) (l.take i)) := by
  rw [ah_is l _ i (by omega) _ (Nat.le_refl _), List.take_length, show min l.length i = i by omega]
theorem le_split (l : List Int) (i : Nat) (u : Int) : le u l = le u (l.take i) + le u (l.drop i) := by
  rw [← le_append, List.take_append_drop]
/-- Who has n ahead of him is the one at place n. -/
theorem ah_hit {l : List Int} {i n : Nat} (hi : i < l.length) (h : ah l l[i] i l.length = n) : (srt l)[n]? = some l[i] := by
  rw [ah_full hi] at h
  have m1 := le_mono (show l[i] - 1 ≤ l[i] by omega) (l.take i)
  have m2 := le_mono (show l[i] - 1 ≤ l[i] by omega) (l.drop i)
  have s1 := le_split l i l[i]
  have s2 := le_split l i (l[i] - 1)
  have hd : le l[i] (l.drop i) = 1 + le l[i] (l.drop (i + 1)) ∧ le (l[i] - 1) (l.drop i) = le (l[i] - 1) (l.drop (i + 1)) := by
    rw [List.drop_eq_getElem_cons hi, le, le, if_pos (by omega), if_neg (by omega)]; omega
  have m3 := le_mono (show l[i] - 1 ≤ l[i] by omega) (l.drop (i + 1))
  have hn : n < le l[i] l := by omega
  refine srt_is hn (by omega) (Nat.lt_of_lt_of_le hn (le_len _ _))
theorem eq_at : ∀ (l : List Int) (v : Int) (j : Nat), le (v - 1) l + j < le v l → ∃ i, ∃ h : i < l.length, l[i] = v ∧ le v (l.take i) = le (v - 1) (l.take i) + j := by
  intro l
  induction l with
  | nil => intro v j h; simp [le] at h
  | cons a t ih =>
    intro v j h
    simp only [le] at h
    by_cases h1 : a ≤ v - 1
    · rw [if_pos h1, if_pos (by omega)] at h
      obtain ⟨i, hi, e, hh⟩ := ih v j (by omega)
      exact ⟨i + 1, by simpa using hi, by simpa using e, by simp only [List.take_succ_cons, le]; rw [if_pos (by omega), if_pos (by omega)]; omega⟩
    · by_cases h2 : a = v
      · subst h2
        rw [if_neg h1, if_pos (by omega)] at h
        cases j with
        | zero => exact ⟨0, by simp, rfl, by simp [le]⟩
        | succ j =>
          obtain ⟨i, hi, e, hh⟩ := ih a j (by omega)
          exact ⟨i + 1, by simpa using hi, by simpa using e, by simp only [List.take_succ_cons, le]; rw [if_neg h1, if_pos (by omega)]; omega⟩
      · rw [if_neg h1, if_neg (by omega)] at h
        obtain ⟨i, hi, e, hh⟩ := ih v j (by omega)
        exact ⟨i + 1, by simpa using hi, by simpa using e, by simp only [List.take_succ_cons, le]; rw [if_neg h1, if_neg (by omega)]; omega⟩
/-- If nobody has n ahead of him, there are no more than n. -/
theorem ah_miss {l : List Int} {n : Nat} (h : ∀ i (hi : i < l.length), ah l l[i] i l.length ≠ n) : (srt l)[n]? = none := by
  rw [List.getElem?_eq_none_iff, srt_len]
  refine Decidable.byContradiction fun hc => ?_
  have hn : n < (srt l).length := by rw [srt_len]; omega
  have hv := List.getElem?_eq_getElem hn
  obtain ⟨v, e⟩ : ∃ v, (srt l)[n] = v := ⟨_, rfl⟩
  rw [e] at hv
  have a := (srt_at hv v).1 (by omega)
  have b : le (v - 1) l ≤ n := by have := srt_at hv (v - 1); omega
  obtain ⟨i, hi, e2, hh⟩ := eq_at l v (n - le (v - 1) l) (by omega)
  have := ah_full hi
  rw [e2, hh] at this
  exact h i hi (by rw [e2]; omega)
end Go.Proofs.YtpehlldgnbajjaaGreatDoor

namespace Go.Proofs.YtpehlldgnbajjaaGreatDoor
open Go.Lib
set_option linter.unusedVariables false
set_option linter.unusedSimpArgs false

/-- An offer: who, and at what. -/
abbrev Of := List UInt8 × Int
def offOk (o : Of) : Bool := isName o.1 && decide (1 ≤ o.2 ∧ o.2 ≤ 1000000000000)
/-- Unlike from all ahead of it. -/
def fresh (l : List Of) (i : Nat) (s : List UInt8) : Bool := (l.take i).all fun o => decide (o.1 ≠ s)
def offsTo (l : List Of) : Nat → Bool
  | 0 => true
  | i + 1 => offsTo l i && (match l[i]? with | some o => offOk o && fresh l i o.1 | none => true)
/-- May offers be? -/
def offsOk (l : List Of) : Bool := decide (l.length ≤ 8) && offsTo l l.length
theorem offsTo_no {l : List Of} : ∀ {i j : Nat}, offsTo l i = false → i ≤ j → offsTo l j = false := by
  intro i j h hij
  induction j with
  | zero => obtain rfl : i = 0 := by omega
            exact h
  | succ j ih =>
    by_cases e : i = j + 1
    · subst e; exact h
    · rw [offsTo, ih (by omega)]; rfl
theorem offsTo_iff {l : List Of} : ∀ {n : Nat}, n ≤ l.length → (offsTo l n = true ↔ ∀ i (h : i < l.length), i < n → offOk l[i] = true ∧ ∀ k (hk : k < l.length), k < i → l[k].1 ≠ l[i].1) := by
  intro n
  induction n with
  | zero => intro _; exact ⟨fun _ i _ h => absurd h (by omega), fun _ => rfl⟩
  | succ n ih =>
    intro hn
    have hl : n < l.length := by omega
    rw [offsTo, List.getElem?_eq_getElem hl, Bool.and_eq_true, ih (by omega)]
    simp only [Bool.and_eq_true, fresh, List.all_eq_true, decide_eq_true_eq]
    constructor
    · rintro ⟨h1, h2, h3⟩ i hi hin
      by_cases e : i = n
      · subst e
        refine ⟨h2, fun k hk hki => h3 l[k] ?_⟩
        rw [List.mem_iff_getElem]
        exact ⟨k, by rw [List.length_take]; omega, by rw [List.getElem_take]⟩
      · exact h1 i hi (by omega)
    · intro h
      refine ⟨fun i hi hin => h i hi (by omega), (h n hl (by omega)).1, fun o ho => ?_⟩
      obtain ⟨k, hk, rfl⟩ := List.mem_iff_getElem.1 ho
      rw [List.length_take] at hk
      rw [List.getElem_take]
      exact (h n hl (by omega)).2 k (by omega) (by omega)
theorem offs_iff {l : List Of} : offsOk l = true ↔ l.length ≤ 8 ∧ ∀ i (h : i < l.length), offOk l[i] = true ∧ ∀ k (hk : k < l.length), k < i → l[k].1 ≠ l[i].1 := by
  unfold offsOk
  rw [Bool.and_eq_true, decide_eq_true_eq, offsTo_iff (Nat.le_refl _)]
  exact ⟨fun h => ⟨h.1, fun i hi => h.2 i hi hi⟩, fun h => ⟨h.1, fun i hi _ => h.2 i hi⟩⟩
def prices (l : List Of) : List Int := l.map (·.2)
/-- The price at place n in rising order. -/
def rk (l : List Of) (n : Nat) : Option Int := (srt (prices l))[n]?
def fromO (l : List Of) (s : List UInt8) : Option Int := (l.find? fun o => decide (o.1 = s)).map (·.2)

def wtM (a l h : Int) : Bool := decide (l ≤ a ∧ a ≤ h)
def told1 (n : Int) : Int := if rt n then n else 0
def told2 (n : Int) : Int := if rt n then 0 else 10
def two1 (a b n : Int) : Int := if rt a && rt b then told1 n else 0
def two2 (a b n : Int) : Int := if rt a && rt b then told2 n else 10
def fl (p : Int) : Int := if p.tmod 10000 < 0 then p.tdiv 10000 - 1 else p.tdiv 10000
def prt (a bp : Int) (up : Bool) : Int := if up then -(fl (-(a * bp))) else fl (a * bp)
def part1 (a bp : Int) (up : Bool) : Int := if rt a && wtM bp (-100000) 100000 then told1 (prt a bp up) else 0
def part2 (a bp : Int) (up : Bool) : Int := if rt a && wtM bp (-100000) 100000 then told2 (prt a bp up) else 10

/-- What is told: an amount, nothing, or an error. -/
abbrev Rs := Except Int (Option Int)
def subR (a n : Int) : Rs := if two2 a n (a - n) = 0 then .ok (some (two1 a n (a - n))) else .error (two2 a n (a - n))
def cutR (a n : Int) : Rs := if part2 a n false = 0 then subR a (part1 a n false) else .error (part2 a n false)
def exNone : Ex := .mk 0 0 [] []
def arg (x : Ex) (i : Nat) : Ex := (x.l[i]?).getD exNone
def condF (f : Ex → Rs) (l : List Of) (x : Ex) : Except Int Bool :=
  if x.k = 11 then .ok (decide (x.n < (l.length : Int)))
  else match f (arg x 0) with
    | .error e => .error e
    | .ok a => match f (arg x 1) with
      | .error e => .error e
      | .ok b => .ok (match a, b with | some a, some b => decide (b < a) | _, _ => false)
def bothF (k : Int) (a b : Option Int) : Option Int := match a, b with | some a, some b => some (if k = 7 then min a b else max a b) | _, _ => none
def toldG (f : Ex → Rs) (c : Except Int Bool) (r0 r1 fr : Option Int) (x : Ex) : Rs :=
  if x.k = 1 then .ok r0 else if x.k = 2 then .ok r1 else if x.k = 3 then .ok fr else if x.k = 4 then .ok (some x.n)
  else if x.k = 10 then match c with
    | .error e => .error e
    | .ok true => f (arg x 1)
    | .ok false => f (arg x 2)
  else match f (arg x 0) with
    | .error e => .error e
    | .ok a =>
      if x.k = 9 then match a with | some v => .ok (some v) | none => f (arg x 1)
      else if x.k = 5 then match a with | none => .ok none | some v => subR v x.n
      else if x.k = 6 then match a with | none => .ok none | some v => cutR v x.n
      else match f (arg x 1) with
        | .error e => .error e
        | .ok b => .ok (bothF x.k a b)
def toldF (f : Ex → Rs) (l : List Of) (x : Ex) : Rs := toldG f (condF f l (arg x 0)) (rk l 0) (rk l 1) (fromO l x.nm) x
def toldN (l : List Of) : Nat → Ex → Rs
  | 0, _ => .ok none
  | d + 1, x => toldF (toldN l d) l x
theorem told_succ (l : List Of) (d : Nat) (x : Ex) : toldN l (d + 1) x = toldF (toldN l d) l x := rfl
def condN (l : List Of) (d : Nat) (x : Ex) : Except Int Bool := condF (toldN l d) l x
/-- What a strategy tells; whether a condition is so. -/
def evalS (l : List Of) (x : Ex) : Rs := if offsOk l && rightX x then toldN l 32 x else .error 1
def exLw : Ex := .mk 1 0 [] []
def ifX (x : Ex) : Ex := .mk 10 0 [] [x, exLw, exLw]
def condS (l : List Of) (x : Ex) : Except Int Bool := if offsOk l && rightX (ifX x) then condN l 32 x else .error 1
def rsV : Rs → Int
  | .ok (some v) => v
  | _ => 0
def rsB : Rs → Bool
  | .ok (some _) => true
  | _ => false
def rsE : Rs → Int
  | .error e => e
  | _ => 0
def cdB : Except Int Bool → Bool
  | .ok b => b
  | _ => false
def cdE : Except Int Bool → Int
  | .error e => e
  | _ => 0
theorem sub_err (a n e : Int) (h : subR a n = .error e) : e = 10 := by
  unfold subR at h
  split at h
  · cases h
  · rename_i hn
    injection h with h
    unfold two2 told2 at *
    split at h
    · split at h
      · exact absurd (by rename_i h1 h2; rw [if_pos h1, if_pos h2]) hn
      · exact h.symm
    · exact h.symm
theorem cut_err (a n e : Int) (h : cutR a n = .error e) : e = 10 := by
  unfold cutR at h
  split at h
  · exact sub_err _ _ _ h
  · rename_i hn
    injection h with h
    unfold part2 told2 at *
    split at h
    · split at h
      · exact absurd (by rename_i h1 h2; rw [if_pos h1, if_pos h2]) hn
      · exact h.symm
    · exact h.symm
/-- An error of a reckoning is the range. -/
theorem told_err (l : List Of) : ∀ (d : Nat) (x : Ex) (e : Int), toldN l d x = .error e → e = 10 := by
  intro d
  induction d with
  | zero => intro x e h; cases h
  | succ d ih =>
    have hc : ∀ (x : Ex) (e : Int), condF (toldN l d) l x = .error e → e = 10 := by
      intro x e h
      unfold condF at h
      split at h
      · cases h
      · split at h
        · rename_i e' he; injection h with h; subst h; exact ih _ _ he
        · split at h
          · rename_i e' he; injection h with h; subst h; exact ih _ _ he
          · cases h
    intro x e h
    rw [told_succ] at h
    unfold toldF toldG at h
    split at h
    · cases h
    split at h
    · cases h
    split at h
    · cases h
    split at h
    · cases h
    split at h
    · split at h
      · rename_i e' he; injection h with h; subst h; exact hc _ _ he
      · exact ih _ _ h
      · exact ih _ _ h
    split at h
    · rename_i e' he; injection h with h; subst h; exact ih _ _ he
    split at h
    · split at h
      · cases h
      · exact ih _ _ h
    split at h
    · split at h
      · cases h
      · exact sub_err _ _ _ h
    split at h
    · split at h
      · cases h
      · exact cut_err _ _ _ h
    split at h
    · rename_i e' he; injection h with h; subst h; exact ih _ _ he
    · cases h
theorem cond_err (l : List Of) (d : Nat) (x : Ex) (e : Int) (h : condN l d x = .error e) : e = 10 := by
  unfold condN condF at h
  split at h
  · cases h
  · split at h
    · rename_i e' he; injection h with h; subst h; exact told_err _ _ _ _ he
    · split at h
      · rename_i e' he; injection h with h; subst h; exact told_err _ _ _ _ he
      · cases h
end Go.Proofs.YtpehlldgnbajjaaGreatDoor

namespace Go.Proofs.YtpehlldgnbajjaaGreatDoor
open Go.RowKit Go.Lib
set_option linter.unusedVariables false
set_option linter.unusedSimpArgs false

abbrev OV (o : Of) : Value := .agg #[.string (B o.1), .int .i64 o.2]
def cells2 (o : Of) : List Value := [.string (B o.1), .int .i64 o.2]
def cellsO (os : List Of) : List Value := os.flatMap cells2
theorem cellsO_cons (o : Of) (t : List Of) : cellsO (o :: t) = cells2 o ++ cellsO t := rfl
theorem cellsO_append (a b : List Of) : cellsO (a ++ b) = cellsO a ++ cellsO b := by simp [cellsO]
theorem cellsO_snoc (os : List Of) (o : Of) : cellsO (os ++ [o]) = cellsO os ++ cells2 o := by simp [cellsO]
theorem cellsO_len (os : List Of) : (cellsO os).length = os.length * 2 := by
  induction os with
  | nil => rfl
  | cons e t ih => rw [cellsO_cons, List.length_append, ih]; simp [cells2]; omega
theorem cellsO_at (os : List Of) (i : Nat) (h : i < os.length) : (cellsO os)[i * 2]? = some (.string (B os[i].1)) ∧ (cellsO os)[i * 2 + 1]? = some (.int .i64 os[i].2) := by
  induction os generalizing i with
  | nil => simp at h
  | cons e t ih =>
    rw [cellsO_cons]
    cases i with
    | zero => exact ⟨rfl, rfl⟩
    | succ i =>
      obtain ⟨h1, h2⟩ := ih i (by simpa using h)
      have l2 : (cells2 e).length = 2 := rfl
      refine ⟨?_, ?_⟩
      · rw [List.getElem?_append_right (by omega), show (i + 1) * 2 - (cells2 e).length = i * 2 by omega]; exact h1
      · rw [List.getElem?_append_right (by omega), show (i + 1) * 2 + 1 - (cells2 e).length = i * 2 + 1 by omega]; exact h2
/-- The cells from A on are these offers. -/
def OffsAt (w : World) (A : Option Addr) (os : List Of) : Prop :=
  ∀ i (h : i < os.length), ∃ (g off : Nat), A = some ⟨g, off, none⟩ ∧ g < w.heap.size ∧ w.cell? ⟨g, off + i * 2, none⟩ = some (.string (B os[i].1)) ∧ w.cell? ⟨g, off + i * 2 + 1, none⟩ = some (.int .i64 os[i].2)
theorem OffsAt.nil (w : World) (A : Option Addr) : OffsAt w A [] := fun i h => absurd h (by simp)
theorem OffsAt.below {w w' : World} {A : Option Addr} {os : List Of} (h : OffsAt w A os) (hb : Below w.heap.size w w') : OffsAt w' A os := by
  intro i hi
  obtain ⟨g, off, e, hl, h0, h1⟩ := h i hi
  have hk : ∀ j, w'.cell? ⟨g, j, none⟩ = w.cell? ⟨g, j, none⟩ := fun j => hb.cell (p := ⟨g, j, none⟩) hl
  exact ⟨g, off, e, by have := hb.size; omega, by rw [hk]; exact h0, by rw [hk]; exact h1⟩
theorem OffsAt.rel {w w' : World} {A : Option Addr} {os : List Of} (h : OffsAt w A os) (hr : Rel w w') : OffsAt w' A os := h.below hr.2
/-- Part of a slice. -/
theorem OffsAt.from {w : World} {g off : Nat} {os : List Of} (h : OffsAt w (some ⟨g, off, none⟩) os) (k : Nat) : OffsAt w (some ⟨g, off + k * 2, none⟩) (os.drop k) := by
  intro i hi
  rw [List.length_drop] at hi
  obtain ⟨g', off', e, hl, h0, h1⟩ := h (k + i) (by omega)
  injection e with e
  injection e with e1 e2
  subst e1; subst e2
  refine ⟨g, off + k * 2, rfl, hl, ?_, ?_⟩
  · rw [List.getElem_drop, show off + k * 2 + i * 2 = off + (k + i) * 2 by omega]; exact h0
  · rw [List.getElem_drop, show off + k * 2 + i * 2 + 1 = off + (k + i) * 2 + 1 by omega]; exact h1
theorem OffsAt.take {w : World} {A : Option Addr} {os : List Of} (h : OffsAt w A os) (k : Nat) : OffsAt w A (os.take k) := by
  intro i hi
  rw [List.length_take] at hi
  obtain ⟨g, off, e, hl, h0, h1⟩ := h i (by omega)
  refine ⟨g, off, e, hl, ?_, ?_⟩
  · rw [List.getElem_take]; exact h0
  · rw [List.getElem_take]; exact h1
theorem OffsAt.of_bk {w : World} {g : Nat} {os : List Of} (h : Bk w g 44 (cellsO os).toArray) : OffsAt w (some ⟨g, 0, none⟩) os := by
  intro i hi
  obtain ⟨c0, c1⟩ := cellsO_at os i hi
  refine ⟨g, 0, rfl, h.lt, ?_, ?_⟩
  · rw [Nat.zero_add, h.cell, List.getElem?_toArray]; exact c0
  · rw [Nat.zero_add, h.cell, List.getElem?_toArray]; exact c1
/-- Offers whose fields fit a machine. -/
def OffsFit (os : List Of) : Prop := ∀ o ∈ os, o.1.length ≤ 9223372036854775807 ∧ i64 o.2
/-- Offers as an argument. -/
def OffArg (w : World) (A : Option Addr) (c : Nat) (os : List Of) : Prop := os.length ≤ c ∧ c ≤ maxLen ∧ OffsFit os ∧ OffsAt w A os
theorem OffArg.rel {w w' : World} {A : Option Addr} {c : Nat} {os : List Of} (h : OffArg w A c os) (hr : Rel w w') : OffArg w' A c os := ⟨h.1, h.2.1, h.2.2.1, h.2.2.2.rel hr⟩
theorem offArg_nil (w : World) : OffArg w none 0 [] := ⟨Nat.le_refl _, Nat.zero_le _, fun o h => (by cases h), OffsAt.nil _ _⟩
theorem offs_fit {l : List Of} (h : offsOk l = true) : OffsFit l := fun o ho => by
  obtain ⟨i, hi, rfl⟩ := List.mem_iff_getElem.1 ho
  have := ((offs_iff.1 h).2 i hi).1
  unfold offOk at this
  simp only [Bool.and_eq_true, decide_eq_true_eq] at this
  have hn := (name_parts this.1).2.2.1
  exact ⟨by omega, by omega, by omega⟩
/-- A slice of offers of the call's own. -/
def OffOwn (w : World) (base : Nat) (v : Value) (os : List Of) : Prop := w.ownsRow base 44 2 v os.length (cellsO os)
theorem OffOwn.nil (w : World) (base : Nat) : OffOwn w base (.slice none 0 0) [] := World.ownsRow_nil _ _ _ _
theorem OffOwn.rel {w w' : World} {base : Nat} {v : Value} {os : List Of} (h : OffOwn w base v os) (hr : Rel w w') : OffOwn w' base v os := own_rel h hr
theorem OffOwn.offs {w : World} {base : Nat} {A : Option Addr} {n c : Nat} {os : List Of} (h : OffOwn w base (.slice A n c) os) (hn : n = os.length) : OffsAt w A os := by
  intro i hi
  have h : w.ownsRow base 44 2 (.slice A n c) os.length (cellsO os) := h
  rcases h.2 with ⟨h0, h1⟩ | ⟨g, cap, cur, hv, hb, hh, _⟩
  · omega
  · have hA : A = some ⟨g, 0, none⟩ := by injection hv
    obtain ⟨c0, c1⟩ := cellsO_at os i hi
    have hc := h.cells (g := g) (by rw [hA]; rfl)
    have q0 := hc _ _ c0
    have q1 := hc _ _ c1
    rw [addr_at] at q0 q1
    refine ⟨g, 0, hA, Bk.lt (t := 44) hh, ?_, ?_⟩
    · exact q0
    · rw [Nat.add_assoc]; exact q1
theorem OffOwn.more {w1 : World} {base g cap : Nat} {os : List Of} {o : Of}
    (hown1 : w1.ownsRow base 44 2 (.slice (some ⟨g, 0, none⟩) (os.length + 1) cap) (os.length + 1) (cellsO os ++ cells2 o)) : OffOwn w1 base (.slice (some ⟨g, 0, none⟩) (os.length + 1) cap) (os ++ [o]) := by
  unfold OffOwn
  rw [cellsO_snoc, show (os ++ [o]).length = os.length + 1 by simp]; exact hown1
theorem off_info : (Tryz.prog.info? 44).map (fun i => (i.zero, i.size, i.bytes)) = some (some (.agg #[.string ⟨#[]⟩, .int .i64 0]), 2, 24) := by kernel_rfl
theorem cells2_one (o : Of) : ∀ u ∈ cells2 o, u.oneCell' = true := by
  intro u hu
  simp only [cells2, List.mem_cons, List.not_mem_nil, or_false] at hu
  rcases hu with rfl | rfl <;> rfl
end Go.Proofs.YtpehlldgnbajjaaGreatDoor

namespace Go.Proofs.YtpehlldgnbajjaaGreatDoor
open Go.Lib
set_option linter.unusedVariables false
set_option linter.unusedSimpArgs false

theorem offs_nodup {l : List Of} : offsOk l = true ↔ l.length ≤ 8 ∧ (∀ o ∈ l, offOk o = true) ∧ (l.map (·.1)).Nodup := by
  rw [offs_iff]
  refine and_congr_right fun _ => ?_
  constructor
  · intro h
    refine ⟨fun o ho => ?_, ?_⟩
    · obtain ⟨i, hi, rfl⟩ := List.mem_iff_getElem.1 ho
      exact (h i hi).1
    · unfold List.Nodup
      rw [List.pairwise_iff_getElem]
      intro i j hi hj hij
      rw [List.getElem_map, List.getElem_map]
      rw [List.length_map] at hi hj
      exact (h j hj).2 i hi hij
  · rintro ⟨h1, h2⟩ i hi
    refine ⟨h1 _ (List.getElem_mem hi), fun k hk hki => ?_⟩
    unfold List.Nodup at h2
    rw [List.pairwise_iff_getElem] at h2
    have := h2 k i (by simpa using hk) (by simpa using hi) hki
    simpa using this
theorem offs_perm {l l' : List Of} (h : l.Perm l') : offsOk l = offsOk l' := by
  have key : ∀ {a b : List Of}, a.Perm b → offsOk a = true → offsOk b = true := by
    intro a b hp ha
    rw [offs_nodup] at ha ⊢
    exact ⟨by rw [← hp.length_eq]; exact ha.1, fun o ho => ha.2.1 o (hp.mem_iff.2 ho), (hp.map _).nodup ha.2.2⟩
  cases h1 : offsOk l
  · cases h2 : offsOk l'
    · rfl
    · rw [key h.symm h2] at h1; exact h1.symm
  · rw [key h h1]
theorem from_some {l : List Of} (hn : (l.map (·.1)).Nodup) {s : List UInt8} {p : Int} : fromO l s = some p ↔ (s, p) ∈ l := by
  induction l with
  | nil => simp [fromO]
  | cons o t ih =>
    rw [List.map_cons, List.nodup_cons] at hn
    have ih := ih hn.2
    unfold fromO at ih ⊢
    by_cases h : o.1 = s
    · rw [List.find?_cons_of_pos (by simpa using h)]
      simp only [Option.map_some, Option.some.injEq, List.mem_cons]
      constructor
      · intro e; left; rw [← h, ← e]
      · rintro (e | e)
        · rw [← e]
        · exact absurd (List.mem_map.2 ⟨_, e, rfl⟩) (by rw [h] at hn; exact hn.1)
    · rw [List.find?_cons_of_neg (by simpa using h), ih]
      constructor
      · exact fun e => List.mem_cons_of_mem _ e
      · intro e
        rcases List.mem_cons.1 e with e | e
        · rw [← e] at h; exact absurd rfl h
        · exact e
theorem from_perm {l l' : List Of} (h : l.Perm l') (hn : (l.map (·.1)).Nodup) (s : List UInt8) : fromO l s = fromO l' s := by
  have hn' : (l'.map (·.1)).Nodup := (h.map _).nodup hn
  cases e : fromO l s with
  | some p => exact ((from_some hn').2 (h.mem_iff.1 ((from_some hn).1 e))).symm
  | none =>
    cases e' : fromO l' s with
    | none => rfl
    | some p => rw [(from_some hn).2 (h.mem_iff.2 ((from_some hn').1 e'))] at e; cases e
theorem rk_perm {l l' : List Of} (h : l.Perm l') (n : Nat) : rk l n = rk l' n := by
  unfold rk prices; rw [srt_perm (h.map _)]
theorem toldF_perm {l l' : List Of} (h : l.Perm l') (hn : (l.map (·.1)).Nodup) (f : Ex → Rs) (x : Ex) : toldF f l x = toldF f l' x := by
  have h0 := rk_perm h 0
  have h1 := rk_perm h 1
  have h2 := from_perm h hn x.nm
  have h3 : condF f l (arg x 0) = condF f l' (arg x 0) := by unfold condF; rw [h.length_eq]
  rw [toldF, toldF, h0, h1, h2, h3]
theorem told_perm {l l' : List Of} (h : l.Perm l') (hn : (l.map (·.1)).Nodup) : ∀ (d : Nat), toldN l d = toldN l' d := by
  intro d
  induction d with
  | zero => funext x; rfl
  | succ d ih =>
    funext x
    rw [told_succ, told_succ, ih]
    exact toldF_perm h hn _ _
/-- THE ORDER of the offers makes no difference. -/
theorem eval_perm {l l' : List Of} (h : l.Perm l') (x : Ex) : evalS l x = evalS l' x := by
  unfold evalS
  rw [offs_perm h]
  cases h1 : offsOk l'
  · rw [Bool.false_and, if_neg Bool.false_ne_true, if_neg Bool.false_ne_true]
  · rw [← offs_perm h] at h1
    rw [told_perm h (offs_nodup.1 h1).2.2]
theorem arg_at {k n : Int} {nm : List UInt8} {l : List Ex} {i : Nat} (h : i < l.length) : arg (.mk k n nm l) i = l[i] := by
  unfold arg
  rw [show (Ex.mk k n nm l).l = l from rfl, List.getElem?_eq_getElem h]; rfl
theorem arg_fine {d : Nat} {k n : Int} {nm : List UInt8} {l : List Ex} (h : fine (d + 1) (.mk k n nm l) = true) {i : Nat} (hi : (i : Int) < argsN k) :
    ∃ hi : i < l.length, arg (.mk k n nm l) i = l[i] ∧ fine d l[i] = true ∧ isCond l[i].k = (decide (k = 10) && decide (i = 0)) := by
  obtain ⟨h1, _, _, _, h5⟩ := fine_parts h
  have hl : i < l.length := by omega
  exact ⟨hl, arg_at hl, (h5 i hl).2, (h5 i hl).1⟩
theorem kind_list {k : Int} (h : 0 ≤ argsN k) : k = 1 ∨ k = 2 ∨ k = 3 ∨ k = 4 ∨ k = 5 ∨ k = 6 ∨ k = 7 ∨ k = 8 ∨ k = 9 ∨ k = 10 ∨ k = 11 ∨ k = 12 := by
  unfold argsN at h
  repeat' split at h
  all_goals omega
/-- What may be within d is told the same within more. -/
theorem told_less (l : List Of) : ∀ (d e : Nat), d ≤ e → ∀ (x : Ex), fine d x = true → (isCond x.k = false → toldN l e x = toldN l d x) ∧ (isCond x.k = true → condN l e x = condN l d x) := by
  intro d
  induction d with
  | zero => intro e _ x h; cases h
  | succ d ih =>
    intro e he x hx
    cases e with
    | zero => omega
    | succ e =>
      have he : d ≤ e := by omega
      cases x with
      | mk k n nm xs =>
        have hk := kind_list (k := k) (by obtain ⟨h1, _⟩ := fine_parts hx; omega)
        have hT : ∀ (i : Nat), (i : Int) < argsN k → isCond (arg (.mk k n nm xs) i).k = (decide (k = 10) && decide (i = 0)) ∧ (isCond (arg (.mk k n nm xs) i).k = false → toldN l e (arg (.mk k n nm xs) i) = toldN l d (arg (.mk k n nm xs) i)) ∧ (isCond (arg (.mk k n nm xs) i).k = true → condN l e (arg (.mk k n nm xs) i) = condN l d (arg (.mk k n nm xs) i)) := fun i hi => by
          obtain ⟨_, e1, f, c⟩ := arg_fine hx hi
          rw [e1]; exact ⟨c, ih e he _ f⟩
        have hN : ∀ (i : Nat), (i : Int) < argsN k → (k = 10 → i ≠ 0) → toldN l e (arg (.mk k n nm xs) i) = toldN l d (arg (.mk k n nm xs) i) := fun i hi h => (hT i hi).2.1 (by
          rw [(hT i hi).1]
          by_cases h10 : k = 10
          · simp [h h10]
          · simp [h10])
        generalize hX : Ex.mk k n nm xs = X at *
        have hXk : X.k = k := by rw [← hX]; rfl
        constructor
        · intro hc
          rw [told_succ, told_succ]
          unfold toldF toldG
          rw [hXk]
          rcases hk with rfl | rfl | rfl | rfl | rfl | rfl | rfl | rfl | rfl | rfl | rfl | rfl
          · rfl
          · rfl
          · rfl
          · rfl
          · rw [hN 0 (by decide) (by omega)]; rfl
          · rw [hN 0 (by decide) (by omega)]; rfl
          · rw [hN 0 (by decide) (by omega), hN 1 (by decide) (by omega)]; rfl
          · rw [hN 0 (by decide) (by omega), hN 1 (by decide) (by omega)]; rfl
          · rw [hN 0 (by decide) (by omega), hN 1 (by decide) (by omega)]; rfl
          · have c := (hT 0 (by decide)).2.2 (by rw [(hT 0 (by decide)).1]; rfl)
            unfold condN at c
            rw [c, hN 1 (by decide) (by omega), hN 2 (by decide) (by omega)]; rfl
          · rw [hXk] at hc; cases hc
          · rw [hXk] at hc; cases hc
        · intro hc
          unfold condN condF
          rw [hXk]
          have hk' : k = 11 ∨ k = 12 := by
            rw [hXk] at hc
            simpa [isCond] using hc
          rcases hk' with rfl | rfl
          · rfl
          · have hh : ∀ (i : Nat), (i : Int) < 2 → toldN l (e + 1) (arg X i) = toldN l (d + 1) (arg X i) := fun i hi => by
              obtain ⟨_, e1, f, c⟩ := arg_fine (k := 12) (hX ▸ hx) (i := i) hi
              rw [← hX, e1, (ih (e + 1) (by omega) _ f).1 (by rw [c]; rfl), (ih (d + 1) (by omega) _ f).1 (by rw [c]; rfl)]
            rw [hh 0 (by decide), hh 1 (by decide)]
end Go.Proofs.YtpehlldgnbajjaaGreatDoor
