/- What the laws' walks share: raw pairs, tokens' cells, what comes out of a scan. -/
import Derived.Test.YtodeelbgonkdfaaLexAwake
import Derived.Deep.CutBlock
namespace Go.Proofs.Ytodeelbgonkdfaa
open Go.RowKit Go.Lib
set_option linter.unusedVariables false
set_option linter.unusedSimpArgs false

theorem lex_post (H : AllOk) (s : ByteArray) (hs : s.size ≤ 9223372036854775807) (w0 w : World) (hr : Rel w0 w) :
    Calls Try.prog 12 #[.string s] w (LexPost s.data.toList w0) := H.1 s hs w0 w hr
theorem add_next (a : Addr) (n : Nat) : a.add (n + 1) = ⟨(a.add n).block, (a.add n).off + 1, none⟩ := by
  unfold Addr.add
  by_cases h : n = 0
  · subst h; simp
  · simp [h]; omega
theorem PairsIn.at {w : World} {A : Option Addr} {n : Nat} {zs : List (Int × Int)} (h : PairsIn w A n zs) {w' : World} (hr : Rel w w') (j : Nat) (hj : j < zs.length) :
    ∃ (a : Addr) (x y : Int), A = some a ∧ w'.cell? (a.add (j * 2)) = some (.int .i64 x) ∧ w'.cell? ⟨(a.add (j * 2)).block, (a.add (j * 2)).off + 1, none⟩ = some (.int .i64 y) ∧ zs[j] = (x, y) ∧
      (-9223372036854775808 ≤ x ∧ x ≤ 9223372036854775807) ∧ (-9223372036854775808 ≤ y ∧ y ≤ 9223372036854775807) ∧ (a.add (j * 2)).block < w'.heap.size := by
  obtain ⟨_, _, hb, hp⟩ := h
  obtain ⟨a, e, hl, c0, c1⟩ := (hp.rel hr) j hj
  have := hb zs[j] (List.getElem_mem hj)
  rw [add_next] at c1
  exact ⟨a, zs[j].1, zs[j].2, e, c0, c1, rfl, this.1, this.2, by rw [block_add]; exact hl⟩
theorem B_32 (l p : List UInt8) : B l ++ B p ++ ⟨#[32]⟩ = B (l ++ (p ++ [32])) := by
  rw [show (⟨#[32]⟩ : ByteArray) = B [32] from rfl, B_append, B_append, List.append_assoc]
/-- The cells of one token among others and the end. -/
theorem ToksAt.one {w : World} {A : Option Addr} {us : List Tok} {e : Tok} (h : ToksAt w A (us ++ [e])) (r : Nat) (hr : r < us.length) :
    ∃ g off, A = some ⟨g, off, none⟩ ∧ g < w.heap.size ∧ w.cell? ⟨g, off + r * 4, none⟩ = some (.int .i64 us[r].1) ∧ w.cell? ⟨g, off + r * 4 + 1, none⟩ = some (.string (B us[r].2.1)) ∧ w.cell? ⟨g, off + r * 4 + 2, none⟩ = some (.int .i64 us[r].2.2.1) ∧ w.cell? ⟨g, off + r * 4 + 3, none⟩ = some (.int .i64 us[r].2.2.2) := by
  have := h r (by simp; omega)
  rw [List.getElem_append_left hr] at this
  exact this
/-- What comes out where there is no error. -/
theorem Out.good {l : List UInt8} {ts : List Tok} {place : Int} (h : Out l ts 0 place) : l.length ≤ 2000 ∧ place = 0 ∧ ∃ us, ts = us ++ [(5, [], 0, (l.length : Int))] ∧
    (∀ t ∈ us, Good t.2.1 t.1 t.2.2.1 ∧ t.2.1.length ≤ l.length ∧ 0 ≤ t.2.2.2 ∧ t.2.2.2 + (t.2.1.length : Int) ≤ (l.length : Int)) ∧ Ord 0 us ∧ us.length ≤ l.length := by
  rcases h with ⟨_, _, h, _⟩ | ⟨h1, h2, _, h3⟩ | ⟨_, _, _, _, h, _⟩
  · omega
  · obtain ⟨us, e, hg, ho, hle⟩ := lx_out _ l (Nat.le_refl _) 0 ts h2
    rw [Nat.zero_add] at e
    exact ⟨h1, h3, us, e, fun t ht => by have := hg t ht; rw [Nat.zero_add] at this; exact this, ho, hle⟩
  · omega
theorem out_alone {x : List UInt8} {k n : Int} (h : Good x k n) (hl : x.length ≤ 2000) : Out x [(k, x, n, 0), (5, [], 0, (x.length : Int))] 0 0 := by
  refine .inr (.inl ⟨hl, ?_, rfl, rfl⟩)
  have := lx_alone h 0
  rw [Nat.zero_add] at this
  exact this
/-- The cells of a token alone, and the end. -/
theorem alone_cells {w : World} {A : Option Addr} {k n : Int} {x : List UInt8} {m : Int} (h : ToksAt w A [(k, x, n, 0), (5, [], 0, m)]) : ∃ g off, A = some ⟨g, off, none⟩ ∧
    (w.cell? ⟨g, off, none⟩ = some (.int .i64 k) ∧ w.cell? ⟨g, off + 1, none⟩ = some (.string (B x)) ∧ w.cell? ⟨g, off + 2, none⟩ = some (.int .i64 n) ∧ w.cell? ⟨g, off + 3, none⟩ = some (.int .i64 0)) ∧
    (w.cell? ⟨g, off + 4, none⟩ = some (.int .i64 5) ∧ w.cell? ⟨g, off + 5, none⟩ = some (.string ⟨#[]⟩) ∧ w.cell? ⟨g, off + 6, none⟩ = some (.int .i64 0) ∧ w.cell? ⟨g, off + 7, none⟩ = some (.int .i64 m)) := by
  obtain ⟨g, off, e, _, a0, a1, a2, a3⟩ := h 0 (by simp)
  obtain ⟨g1, off1, e1, _, b0, b1, b2, b3⟩ := h 1 (by simp)
  rw [e] at e1
  cases e1
  exact ⟨g, off, e, ⟨a0, a1, a2, a3⟩, ⟨b0, b1, b2, b3⟩⟩
theorem pre_err {ts : List Tok} {r : Scan} {k : Nat} (h : pre ts r = .error k) : r = .error k := by
  cases r with
  | ok m => cases h
  | error k' => injection h with h; rw [h]
theorem lx_err : ∀ (m : Nat) (s : List UInt8), s.length ≤ m → ∀ (p k : Nat), lx p s = .error k → k ≤ p + s.length := by
  intro m
  induction m with
  | zero =>
    intro s hs p k h
    obtain rfl : s = [] := List.length_eq_zero_iff.1 (by omega)
    rw [lx_nil] at h; cases h
  | succ m ih =>
    intro s hs p k h
    cases s with
    | nil => rw [lx_nil] at h; cases h
    | cons c t =>
      simp only [List.length_cons] at hs ⊢
      cases hb : isBl c
      · cases hg : isSg c
        · cases hn : tokOf ((c :: t).takeWhile isPt) with
          | none => rw [lx_bad p c t hb hg hn] at h; injection h with h; omega
          | some kn =>
            obtain ⟨kk, n⟩ := kn
            rw [lx_tok p c t kk n hb hg hn] at h
            have h' := pre_err h
            have hx := tokOf_ne hn
            have h2 := run_len (c :: t)
            have h3 : 1 ≤ ((c :: t).takeWhile isPt).length := by
              rcases hx' : (c :: t).takeWhile isPt with _ | ⟨a, b⟩
              · exact absurd hx' hx
              · simp
            have h4 : ((c :: t).takeWhile isPt).length ≤ (c :: t).length := (List.takeWhile_sublist _).length_le
            simp only [List.length_cons] at h2 h4
            have := ih _ (by omega) _ _ h'
            omega
        · rw [lx_sign p c t hb hg] at h
          have := ih t (by omega) _ _ (pre_err h)
          omega
      · rw [lx_blank p c t hb] at h
        have := ih t (by omega) _ _ h
        omega
/-- An outcome with blanks ahead of the text. -/
theorem out_shift {l bl : List UInt8} {ts : List Tok} {err place : Int} {n : Nat} (h : Out l ts err place) (hl : l.length ≤ 1900) (hb : bl.all isBl = true) (hn : bl.length = n) (hn8 : n ≤ 8) :
    (err = 0 ∧ place = 0 ∧ Out (bl ++ l) (ts.map (shiftT n)) 0 0) ∨ (err = 61 ∧ ts = [] ∧ 0 ≤ place ∧ place ≤ 1900 ∧ Out (bl ++ l) [] 61 (place + (n : Int))) := by
  have e : lx 0 (bl ++ l) = shift n (lx 0 l) := by
    rw [lx_blanks bl hb, hn, show 0 + n = 0 + n from rfl, lx_shift n _ l (Nat.le_refl _)]
  rcases h with ⟨h, _⟩ | ⟨h1, h2, rfl, rfl⟩ | ⟨h1, k, h2, rfl, rfl, rfl⟩
  · omega
  · exact .inl ⟨rfl, rfl, .inr (.inl ⟨by simp; omega, by rw [e, h2]; rfl, rfl, rfl⟩)⟩
  · have := lx_err _ l (Nat.le_refl _) 0 k h2
    exact .inr ⟨rfl, rfl, by omega, by omega, .inr (.inr ⟨by simp; omega, k + n, by rw [e, h2]; rfl, rfl, rfl, by omega⟩)⟩
theorem Out.bounds {l : List UInt8} {ts : List Tok} (h : Out l ts 0 0) : ts.length ≤ 2001 ∧ ∀ t ∈ ts, 0 ≤ t.2.2.2 ∧ t.2.2.2 ≤ 2000 := by
  obtain ⟨h1, _, us, rfl, hg, _, hle⟩ := h.good
  refine ⟨by simp; omega, fun t ht => ?_⟩
  rcases List.mem_append.1 ht with ht | ht
  · have := hg t ht
    omega
  · rw [List.mem_singleton.1 ht]
    simp only []
    omega
def blanks8 : List UInt8 := [32, 10, 32, 32, 10, 32, 10, 32]
theorem blanks_cut (n : Nat) (h : n ≤ 8) : (⟨#[32, 10, 32, 32, 10, 32, 10, 32]⟩ : ByteArray).extract 0 n = B (blanks8.take n) ∧ (blanks8.take n).all isBl = true ∧ (blanks8.take n).length = n := by
  refine ⟨?_, ?_, ?_⟩
  · rw [B_cut]; rfl
  · rw [List.all_eq_true]
    intro c hc
    have := List.mem_of_mem_take hc
    exact (List.all_eq_true.1 (show blanks8.all isBl = true by decide)) c this
  · rw [List.length_take]; simp [blanks8]; omega
/-- The kinds of a token that stands alone, with what names and words say of it. -/
theorem kind_ways {x : List UInt8} {k n : Int} (h : Good x k n) :
    (k = 1 ∧ n = 0 ∧ isName x = true ∧ isWord x = false) ∨ (k = 1 ∧ n = 0 ∧ isName x = false ∧ isWord x = true) ∨ (k = 2 ∧ (0 ≤ n ∧ n ≤ 100000) ∧ isName x = false ∧ isWord x = false) ∨ (k = 3 ∧ 0 ≤ n ∧ isName x = false ∧ isWord x = false) ∨
      (((k == 1) = false ∧ (k != 2) = true ∧ (k != 3) = true ∧ (k == 2) = false) ∧ n = 0 ∧ isName x = false ∧ isWord x = false) := by
  obtain ⟨e1, e2, e3, e4, e5⟩ := good_kind h
  cases hn : isName x <;> cases hw : isWord x <;> rw [hn, hw] at e1 e2
  · have hk : k ≠ 1 := by simpa using e2
    by_cases h2 : k = 2
    · exact .inr (.inr (.inl ⟨h2, ⟨e4, e5 h2⟩, rfl, rfl⟩))
    · by_cases h3 : k = 3
      · exact .inr (.inr (.inr (.inl ⟨h3, e4, rfl, rfl⟩)))
      · exact .inr (.inr (.inr (.inr ⟨⟨by simpa using hk, by simpa using h2, by simpa using h3, by simpa using h2⟩, e3 h2 h3, rfl, rfl⟩)))
  · have hk : k = 1 := by simpa using e2
    exact .inr (.inl ⟨hk, e3 (by omega) (by omega), rfl, rfl⟩)
  · have hk : k = 1 := by simpa using e2
    exact .inl ⟨hk, e3 (by omega) (by omega), rfl, rfl⟩
  · cases e1
theorem seller_len (n : Int) : (sellerL (pk n 60)).length ≤ 9 := by
  have h := pk_bd n 60 (by omega)
  have := piece_len 4 (pk n 60) h.1 (by rw [(pieceM_at 4).2.2.2.2 (by omega) (by omega) (by omega) (by omega)]; exact h.2)
  rwa [(piece4 (j := 4) (pk n 60) (by omega) (by omega) (by omega) (by omega)).1] at this
/-- A text whose tokens are these, whatever stands behind. -/
def Pre (l : List UInt8) (ts : List Tok) : Prop := ∀ r, lx 0 (l ++ r) = pre ts (lx l.length r)
/-- A text that is wrong at k, whatever stands behind. -/
def Err (l : List UInt8) (k : Nat) : Prop := ∀ r, lx 0 (l ++ r) = .error k
theorem Pre.nil : Pre [] [] := fun r => by rw [pre_nil]; rfl
theorem Pre.piece {l x b : List UInt8} {ts : List Tok} {k n : Int} (h : Pre l ts) (hg : Good x k n) (h0 : b ≠ []) (hb : b.all isBl = true) : Pre (l ++ (x ++ b)) (ts ++ [(k, x, n, (l.length : Int))]) := fun r => by
  rw [List.append_assoc, h, List.append_assoc, lx_step hg h0 hb, pre_pre]
  simp
theorem Pre.bad {l x : List UInt8} {ts : List Tok} (h : Pre l ts) (hx : Bad x = true) : Err (l ++ (x ++ [32])) l.length := fun r => by
  rw [List.append_assoc, h, List.append_assoc, lx_wrong hx _ _ rfl]; rfl
theorem Pre.bad_end {l x : List UInt8} {ts : List Tok} (h : Pre l ts) (hx : Bad x = true) : lx 0 (l ++ x) = .error l.length := by
  have := lx_wrong hx l.length [] rfl
  rw [List.append_nil] at this
  rw [h, this]; rfl
theorem Err.more {l x : List UInt8} {k : Nat} (h : Err l k) : Err (l ++ x) k := fun r => by rw [List.append_assoc, h]
theorem Err.out {l : List UInt8} {k : Nat} (h : Err l k) : lx 0 l = .error k := by
  have := h []
  rwa [List.append_nil] at this
theorem bad_like (w : World) (j : Nat) (hj : j < 14) (X : ByteArray) (hX : B (theBads.getD j []) = X) : (w.alloc (.cells #[.string ⟨#[64]⟩, .string ⟨#[65]⟩, .string ⟨#[61]⟩, .string ⟨#[49, 97]⟩, .string ⟨#[48, 48]⟩, .string ⟨#[49, 48, 48, 48, 48, 49]⟩, .string ⟨#[46, 53]⟩, .string ⟨#[49, 46, 53]⟩, .string ⟨#[97, 46, 98]⟩,
    .string ⟨#[97, 98, 99, 100, 101, 102, 103, 104, 105, 106, 107, 108, 109]⟩, .string ⟨#[0]⟩, .string ⟨#[9]⟩, .string ⟨#[45, 49]⟩, .string ⟨#[49, 46, 50, 51, 52]⟩] 9)).cell? ⟨w.heap.size, j, none⟩ = some (.string X) := by
  rw [← hX]; exact str_cell (ls := theBads) (Bk.new w 9 (strCells theBads)) j hj
end Go.Proofs.Ytodeelbgonkdfaa
