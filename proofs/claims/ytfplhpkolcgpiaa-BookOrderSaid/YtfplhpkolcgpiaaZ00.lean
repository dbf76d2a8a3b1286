/- Plain mathematics of layer 2: decimal numerals and amounts as lists of bytes. No program in this text; Plain mathematics of layer 2, second part: amounts' texts, and what of a text is an amount. No program in this text; Plain mathematics of layer 6: words, names, tokens, and what of a text is scanned. No program in this text; Plain mathematics of layer 13: books and lists of sources. No program in this text; The base: texts as lists, the relation of worlds, the law's pick and numerals (no listed tables at this seat); Blocks that are known whole, rows of the call's own, and what is kept of them; Rows of structs in memory, of any number of cells: to be read, as an argument, of the call's own (cl: an element's cells, k of them; T: the elements' type); Books, offers and lists of sources in memory; The document's own answers of layer 13: ticks, a seller's place, what is not too old, what is dropped; The document's own answers of layer 13: what is not too old, what is dropped, what is offered; The document's own answers of layer 13: are books the same?; The document's own answers of layer 13: what sources told, in memory; are lists of sources the same?; The document's own answers of layer 13: what a book offers; A copy onto nothing (append(nil, xs...)), whatever comes in; a row's element rewritten; Plain mathematics of layer 6, second part: the law's pieces are tokens; what is no token is none. No program in this text; Tokens in memory, pairs of raw numbers; which tokens are the same; The document's own readings of numbers and amounts (layer 2's), at this seat; The document's own Word, Name and token; The document's own answers of layer 13: what is put. -/
import Derived.Test.YtfplhpkolcgpiaaZL

namespace Go.Proofs.Ytfplhpkolcgpiaa
open Go.Lib
set_option linter.unusedVariables false
set_option linter.unusedSimpArgs false
def isD (c : UInt8) : Bool := decide (48 ≤ c.toNat ∧ c.toNat ≤ 57)
def val : List UInt8 → Int → Int
  | [], n => n
  | c :: t, n => val t (n * 10 + ((c.toNat : Int) - 48))
def allD (l : List UInt8) : Bool := l.all isD
def cano (l : List UInt8) : Bool := !l.isEmpty && allD l && (l.length == 1 || l.head? != some 48)
def cnt (l : List UInt8) (most : Int) : Int := if cano l && decide (val l 0 ≤ min most 1000000000000) then val l 0 else -1
theorem of48 {k : Nat} (h : k < 10) : (UInt8.ofNat (48 + k)).toNat = 48 + k := by
  simp [UInt8.toNat_ofNat']; omega
end Go.Proofs.Ytfplhpkolcgpiaa

namespace Go.Proofs.Ytfplhpkolcgpiaa
open Go.Lib
set_option linter.unusedVariables false
set_option linter.unusedSimpArgs false
def negL (l : List UInt8) : Bool := l.head? == some 45
def body (l : List UInt8) : List UInt8 := if negL l then l.tail else l
def fin (neg : Bool) (m : Int) : Option Int := if 1000000000000 < m ∨ (neg = true ∧ m = 0) then none else some (if neg then -m else m)
def last3 (t : List UInt8) : Option (List UInt8 × UInt8 × UInt8) := match t.reverse with
  | d :: c :: e :: r => if e == 46 then some (r.reverse, c, d) else none
  | _ => none
def two (c d : UInt8) : Int := ((c.toNat : Int) - 48) * 10 + ((d.toNat : Int) - 48)
def prs (l : List UInt8) : Option Int := match last3 (body l) with
  | some (x, c, d) => if decide (0 ≤ cnt x 10000000000) && (isD c && isD d) then fin (negL l) (cnt x 10000000000 * 100 + two c d) else none
  | none => none
end Go.Proofs.Ytfplhpkolcgpiaa

namespace Go.Proofs.Ytfplhpkolcgpiaa
open Go.Lib
set_option linter.unusedVariables false
set_option linter.unusedSimpArgs false
def isL (c : UInt8) : Bool := decide (97 ≤ c.toNat ∧ c.toNat ≤ 122)
def isPt (c : UInt8) : Bool := isL c || isD c || c == 46
def isBl (c : UInt8) : Bool := c == 32 || c == 10
def isSg (c : UInt8) : Bool := c == 40 || c == 41 || c == 44
def theWords : List (List UInt8) := [[108,111,119,101,115,116], [115,101,99,111,110,100], [102,114,111,109], [108,101,115,115], [99,117,116], [109,105,110], [109,97,120], [101,108,115,101], [105,102], [109,111,114,101], [97,98,111,118,101]]
def isWord (l : List UInt8) : Bool := theWords.any (· == l)
def isName (l : List UInt8) : Bool := decide (l ≠ [] ∧ l.length ≤ 12) && (l.head?.any isL) && !isWord l && l.all (fun c => isL c || isD c)
/-- A token: its kind, its text, its number, its place. -/
abbrev Tok := Int × List UInt8 × Int × Int
/-- What a run of parts is: a kind and a number. -/
def tokOf (x : List UInt8) : Option (Int × Int) :=
  if isWord x || isName x then some (1, 0)
  else if 0 ≤ cnt x 100000 then some (2, cnt x 100000)
  else match prs x with
    | some a => some (3, a)
    | none => none
/-- What is scanned: tokens, or the place of what is none. -/
abbrev Scan := Except Nat (List Tok)
def pre (ts : List Tok) : Scan → Scan
  | .ok l => .ok (ts ++ l)
  | .error k => .error k
theorem pre_nil (r : Scan) : pre [] r = r := by cases r <;> rfl
theorem pre_pre (a b : List Tok) (r : Scan) : pre a (pre b r) = pre (a ++ b) r := by cases r <;> simp [pre]
theorem run_len (l : List UInt8) : (l.dropWhile isPt).length = l.length - (l.takeWhile isPt).length := by
  have := congrArg List.length (List.takeWhile_append_dropWhile (p := isPt) (l := l))
  simp only [List.length_append] at this
  omega
theorem tokOf_nil : tokOf [] = none := by decide
theorem tokOf_ne {x : List UInt8} {k n : Int} (h : tokOf x = some (k, n)) : x ≠ [] := by
  rintro rfl; rw [tokOf_nil] at h; cases h
def lx (p : Nat) (l : List UInt8) : Scan :=
  match l with
  | [] => .ok [(5, [], 0, (p : Int))]
  | c :: t =>
    if isBl c then lx (p + 1) t
    else if isSg c then pre [(4, [c], 0, (p : Int))] (lx (p + 1) t)
    else
      match h : tokOf ((c :: t).takeWhile isPt) with
      | none => .error p
      | some kn => pre [(kn.1, (c :: t).takeWhile isPt, kn.2, (p : Int))] (lx (p + ((c :: t).takeWhile isPt).length) ((c :: t).dropWhile isPt))
  termination_by l.length
  decreasing_by
    all_goals simp_wf
    have h1 := tokOf_ne (k := kn.1) (n := kn.2) h
    have h2 := run_len (c :: t)
    have h3 : 1 ≤ ((c :: t).takeWhile isPt).length := by
      rcases hx : (c :: t).takeWhile isPt with _ | ⟨a, b⟩
      · exact absurd hx h1
      · simp
    simp at h2 h3 ⊢
    omega
/-- No part stands at the beginning. -/
def stops (r : List UInt8) : Bool := r.head?.all fun c => !isPt c
/-- Each token stands at q or behind, and behind the one ahead of it. -/
def Ord : Int → List Tok → Prop
  | _, [] => True
  | q, t :: ts => q ≤ t.2.2.2 ∧ Ord (t.2.2.2 + (t.2.1.length : Int)) ts
theorem Ord.mono {q q' : Int} {ts : List Tok} (h : Ord q ts) (hq : q' ≤ q) : Ord q' ts := by
  cases ts with
  | nil => trivial
  | cons t ts => exact ⟨by have := h.1; omega, h.2⟩
theorem Ord.at {ts : List Tok} {q : Int} (h : Ord q ts) (i : Nat) (hi : i + 1 < ts.length) : ts[i].2.2.2 + (ts[i].2.1.length : Int) ≤ ts[i + 1].2.2.2 := by
  induction ts generalizing i q with
  | nil => simp at hi
  | cons t ts ih =>
    cases i with
    | zero =>
      cases ts with
      | nil => simp at hi
      | cons u us => exact h.2.1
    | succ i => exact ih h.2 i (by simpa using hi)
end Go.Proofs.Ytfplhpkolcgpiaa

namespace Go.Proofs.Ytfplhpkolcgpiaa
open Go.Lib
set_option linter.unusedVariables false
set_option linter.unusedSimpArgs false
/-- Seller, price, tick. -/
abbrev Sl := List UInt8 × Int × Int
def tickF (t : Int) : Int := if t < 0 then 0 else if 1099511627776 < t then 1099511627776 else t
def laterF (t m : Int) : Int := tickF (tickF t + tickF m)
def hasB (b : List Sl) (s : List UInt8) : Bool := b.any fun x => decide (x.1 = s)
/-- The first slot of a seller is another one. -/
def replB : List Sl → Sl → List Sl
  | [], _ => []
  | x :: r, y => if x.1 = y.1 then y :: r else x :: replB r y
def putOk (s : List UInt8) (p k : Int) : Bool := isName s && decide (1 ≤ p ∧ p ≤ 1000000000000) && decide (0 ≤ k ∧ k ≤ 1099511627776)
def putB (b : List Sl) (s : List UInt8) (p k : Int) : Except Int (List Sl) :=
  if putOk s p k then (if hasB b s then .ok (replB b (s, p, k)) else if 8 ≤ b.length then .error 50 else .ok (b ++ [(s, p, k)])) else .error 1
def dropB : List Sl → List UInt8 → List Sl
  | [], _ => []
  | x :: r, s => if x.1 = s then r else x :: dropB r s
def expB (b : List Sl) (now most : Int) : List Sl := b.filter fun x => decide (now ≤ laterF x.2.2 most)
def offB (b : List Sl) : List (List UInt8 × Int) := b.map fun x => (x.1, x.2.1)
/-- No seller has two slots. -/
def oneB (b : List Sl) : Prop := (b.map (·.1)).Nodup
theorem hasB_iff {b : List Sl} {s : List UInt8} : hasB b s = true ↔ ∃ x ∈ b, x.1 = s := by
  unfold hasB
  rw [List.any_eq_true]
  simp only [decide_eq_true_eq]
theorem hasB_no {b : List Sl} {s : List UInt8} (h : hasB b s = false) : ∀ x ∈ b, x.1 ≠ s := fun x hx e => by
  rw [hasB_iff.2 ⟨x, hx, e⟩] at h; cases h
theorem repl_len (b : List Sl) (y : Sl) : (replB b y).length = b.length := by
  induction b with
  | nil => rfl
  | cons x r ih =>
    rw [replB]
    split
    · rfl
    · simp only [List.length_cons, ih]
theorem repl_map (b : List Sl) (y : Sl) : (replB b y).map (·.1) = b.map (·.1) := by
  induction b with
  | nil => rfl
  | cons x r ih =>
    rw [replB]
    split
    · rename_i e; rw [List.map_cons, List.map_cons, e]
    · rw [List.map_cons, List.map_cons, ih]
theorem repl_mem {b : List Sl} {y x : Sl} (h : x ∈ replB b y) : x = y ∨ x ∈ b := by
  induction b with
  | nil => cases h
  | cons z r ih =>
    rw [replB] at h
    split at h
    · rcases List.mem_cons.1 h with h | h
      · exact .inl h
      · exact .inr (List.mem_cons_of_mem _ h)
    · rcases List.mem_cons.1 h with h | h
      · exact .inr (by rw [h]; exact List.mem_cons_self ..)
      · rcases ih h with h | h
        · exact .inl h
        · exact .inr (List.mem_cons_of_mem _ h)
theorem drop_none {b : List Sl} {s : List UInt8} (h : hasB b s = false) : dropB b s = b := by
  induction b with
  | nil => rfl
  | cons z r ih =>
    have hz : z.1 ≠ s := hasB_no h z (List.mem_cons_self ..)
    rw [dropB, if_neg hz, ih]
    unfold hasB at h ⊢
    rw [List.any_cons, decide_eq_false hz, Bool.false_or] at h
    exact h
/-- A book of right slots, of at most eight sellers. -/
def bookOk (b : List Sl) : Prop := oneB b ∧ b.length ≤ 8 ∧ ∀ x ∈ b, putOk x.1 x.2.1 x.2.2 = true
theorem book_nil : bookOk [] := ⟨List.nodup_nil, by simp, fun x hx => by cases hx⟩
theorem put_cases {b c : List Sl} {s : List UInt8} {p k : Int} (h : putB b s p k = .ok c) : putOk s p k = true ∧ ((hasB b s = true ∧ c = replB b (s, p, k)) ∨ (hasB b s = false ∧ b.length < 8 ∧ c = b ++ [(s, p, k)])) := by
  unfold putB at h
  cases ho : putOk s p k with
  | false => rw [ho] at h; simp at h
  | true =>
    rw [ho] at h
    simp only [if_true] at h
    cases hh : hasB b s with
    | true =>
      rw [hh] at h
      simp only [if_true] at h
      injection h with h
      exact ⟨rfl, .inl ⟨rfl, h.symm⟩⟩
    | false =>
      rw [hh] at h
      simp only [Bool.false_eq_true, if_false] at h
      by_cases h8 : 8 ≤ b.length
      · rw [if_pos h8] at h; cases h
      · rw [if_neg h8] at h
        injection h with h
        exact ⟨rfl, .inr ⟨rfl, by omega, h.symm⟩⟩
theorem book_put {b c : List Sl} {s : List UInt8} {p k : Int} (h : bookOk b) (hp : putB b s p k = .ok c) : bookOk c := by
  obtain ⟨ho, hc⟩ := put_cases hp
  rcases hc with ⟨_, rfl⟩ | ⟨hn, hl, rfl⟩
  · refine ⟨?_, by rw [repl_len]; exact h.2.1, fun x hx => ?_⟩
    · unfold oneB; rw [repl_map]; exact h.1
    · rcases repl_mem hx with rfl | hx
      · exact ho
      · exact h.2.2 x hx
  · refine ⟨?_, by rw [List.length_append, List.length_singleton]; omega, fun x hx => ?_⟩
    · unfold oneB
      rw [List.map_append, List.nodup_append]
      refine ⟨h.1, by simp, fun a ha b' hb' e => ?_⟩
      obtain ⟨x, hx, rfl⟩ := List.mem_map.1 ha
      simp only [List.map_cons, List.map_nil, List.mem_singleton] at hb'
      exact hasB_no hn x hx (e.trans hb')
    · rcases List.mem_append.1 hx with hx | hx
      · exact h.2.2 x hx
      · rw [List.mem_singleton.1 hx]; exact ho
/-- Ticks. -/
theorem tick_bd (t : Int) : 0 ≤ tickF t ∧ tickF t ≤ 1099511627776 := by unfold tickF; split <;> (try split) <;> omega
/-- What sources told last. -/
abbrev Sn := List UInt8 × Int
def seenB (l : List Sn) (s : List UInt8) : Option Int := (l.find? fun x => decide (x.1 = s)).map (·.2)
def replN : List Sn → Sn → List Sn
  | [], _ => []
  | x :: r, y => if x.1 = y.1 then y :: r else x :: replN r y
def freshOk (s : List UInt8) (n : Int) : Bool := isName s && decide (1 ≤ n ∧ n ≤ 1000000000000)
def freshB (l : List Sn) (s : List UInt8) (n : Int) : Except Int (List Sn × Bool) :=
  if freshOk s n then (match seenB l s with
    | some m => if m < n then .ok (replN l (s, n), true) else .ok (l, false)
    | none => if 8 ≤ l.length then .error 50 else .ok (l ++ [(s, n)], true)) else .error 1
end Go.Proofs.Ytfplhpkolcgpiaa

namespace Go.Proofs.Ytfplhpkolcgpiaa
open Go.RowKit Go.Lib
set_option linter.unusedVariables false
set_option linter.unusedSimpArgs false
def B (l : List UInt8) : ByteArray := ⟨l.toArray⟩
theorem B_list (l : List UInt8) : (B l).data.toList = l := by simp [B]
theorem B_toList (l : List UInt8) : (B l).toList = l := ByteArray.toList_mk l
theorem B_of (s : ByteArray) : B s.data.toList = s := by simp [B]
theorem B_append (a b : List UInt8) : B a ++ B b = B (a ++ b) := ByteArray.mk_append_mk a b
theorem B_size (l : List UInt8) : (B l).size = l.length := by simp [B, ByteArray.size]
def pk (c n : Int) : Int := if c < 0 then -((c + 1).tmod n) else c % n
def Tab (_ : World) : Prop := True
def Rel (w0 w : World) : Prop := Tab w0 ∧ Below w0.heap.size w0 w
theorem Rel.self {w0 w : World} (_ : Rel w0 w) : Rel w w := ⟨trivial, Below.refl _ _⟩
theorem Rel.trans {w0 w w' : World} (h : Rel w0 w) (h' : Rel w w') : Rel w0 w' := ⟨h.1, h.2.trans (h'.2.mono h.2.size)⟩
theorem Rel.size {w0 w : World} (h : Rel w0 w) : w0.heap.size ≤ w.heap.size := h.2.size
theorem Rel.start {w : World} (h : Tab w) : Rel w w := ⟨h, Below.refl _ _⟩
theorem Rel.step {w0 w w' : World} (h : Rel w0 w) (hb : Below w.heap.size w w') : Rel w0 w' := ⟨h.1, h.2.trans (hb.mono h.2.size)⟩
theorem Rel.alloc {w0 w : World} (h : Rel w0 w) (o : Obj) : Rel w0 (w.alloc o) := ⟨h.1, h.2.alloc h.2.size o⟩
theorem Rel.drew {w0 w : World} (h : Rel w0 w) : Rel w0 w.drew := ⟨h.1, h.2.drew⟩
theorem Rel.drewN {w0 w : World} (h : Rel w0 w) (n : Nat) : Rel w0 (w.drewN n) := ⟨h.1, ⟨h.2.os, h.2.tape, h.2.output, h.2.size, h.2.block⟩⟩
theorem Rel.setCell {w0 w : World} (h : Rel w0 w) {p : Addr} (hp : w0.heap.size ≤ p.block) (u : Value) : Rel w0 (w.setCell p u) := ⟨h.1, h.2.setCell hp u⟩
theorem ret_int {k : IntKind} {a b : Int} (h : a = b) : Ending.returned (.int k a) = .returned (.int k b) := by rw [h]
theorem ret_bool {a b : Bool} (h : a = b) : Ending.returned (.bool a) = .returned (.bool b) := by rw [h]
theorem ret_str {a b : ByteArray} (h : a = b) : Ending.returned (.string a) = .returned (.string b) := by rw [h]
theorem tdt (p n : Int) (hn : 0 < n) : n * p.tdiv n + p.tmod n = p ∧ (0 ≤ p → 0 ≤ p.tmod n) ∧ (p ≤ 0 → p.tmod n ≤ 0) ∧ p.tmod n < n ∧ -n < p.tmod n := by
  refine ⟨Int.mul_tdiv_add_tmod p n, fun h => Int.tmod_nonneg n h, fun h => ?_, Int.tmod_lt_of_pos p hn, ?_⟩
  · have := Int.tmod_nonneg n (a := -p) (by omega)
    rw [Int.neg_tmod] at this; omega
  · have := Int.tmod_lt_of_pos (-p) hn
    rw [Int.neg_tmod] at this; omega
theorem pk_bd (c n : Int) (hn : 0 < n) : 0 ≤ pk c n ∧ pk c n < n := by
  unfold pk
  split
  · have := tdt (c + 1) n hn; omega
  · exact ⟨Int.emod_nonneg c (by omega), Int.emod_lt_of_pos c hn⟩
set_option maxHeartbeats 400000 in
theorem pick_any (c n : Int) (hc : -9223372036854775808 ≤ c) (hc' : c ≤ 9223372036854775807) (hn : 0 < n) (hn' : n ≤ 9223372036854775807) (w : World) :
    Calls Try.prog 27 #[.int .i64 c, .int .i64 n] w fun e w' => e = .returned (.int .i64 (pk c n)) ∧ w = w' := by
  by_cases h : c < 0
  all_goals
    go_enter Try.func27, Try.ntmps27
    go_wp2
    all_goals
      go_ret
      exact ⟨ret_int (by unfold pk; split <;> first | rfl | omega), rfl⟩
theorem bool_at {f : FuncId} {args : Array Value} {w : World} {R : World → Prop} {x : Bool} (y : Bool) (c : Calls Try.prog f args w fun e w' => e = .returned (.bool x) ∧ R w') (h : Hid (x = y)) : Calls Try.prog f args w fun e w' => e = .returned (.bool y) ∧ R w' := by
  have e := h.out; subst e; exact c
def dgt (d : Int) : UInt8 := UInt8.ofNat (48 + d.toNat)
theorem dd_step {n : Int} (h : 0 ≤ n) (h' : 10 ≤ n) : decDigits n.toNat = decDigits (n / 10).toNat ++ [dgt (n % 10)] := by
  unfold dgt
  rw [decDigits, dif_neg (by omega)]
  congr 2
  · omega
  · congr 2; omega
theorem dd_last {n : Int} (h : 0 ≤ n) (h' : ¬ 10 ≤ n) : decDigits n.toNat = [dgt (n % 10)] := by
  unfold dgt
  rw [decDigits, dif_pos (by omega)]
  congr 2; omega
theorem nd_le (k u : Nat) (h : u < 10 ^ k) (hk : 1 ≤ k) : (decDigits u).length ≤ k := by
  induction k generalizing u with
  | zero => omega
  | succ k ih =>
    rw [decDigits]
    split
    · simp
    · rename_i h10
      have hk' : 1 ≤ k := by
        rcases k with _ | k
        · simp at h; omega
        · omega
      have := ih (u / 10) (by rw [Nat.pow_succ] at h; omega) hk'
      simp
      omega
theorem dd_size (n : Int) (h : n ≤ 9223372036854775807) : (B (decDigits n.toNat)).size ≤ 19 := by
  rw [B_size]
  exact nd_le 19 n.toNat (by have e : 10 ^ 19 = 10000000000000000000 := by decide
                             omega) (by omega)
theorem byte_string (w : World) (d : Int) (h0 : 0 ≤ d) (h1 : d ≤ 9) : (convert 77 9 (.slice (some ⟨w.heap.size, 0, none⟩) 1 1)).run Try.prog (w.alloc (.cells #[.int .u8 (48 + d)] 5)) =
    .ok (.string (B [dgt d])) (w.alloc (.cells #[.int .u8 (48 + d)] 5)) := by
  have e : (48 + d : Int) = ((UInt8.ofNat (48 + d.toNat)).toNat : Int) := by rw [of48 (by omega)]; omega
  rw [e]
  exact run_convert_bytes_back (P := Try.prog) _ 77 9 5 ⟨w.heap.size, 0, none⟩ 1 [UInt8.ofNat (48 + d.toNat)] Try.underlying77 Try.underlying5 Try.underlying9 (fun j hj => by
    obtain rfl : j = 0 := by simpa using hj
    simp [Addr.add, go_sem])
set_option maxHeartbeats 400000 in
theorem ldec_any (w0 : World) : ∀ (k : Nat) (n : Int), 0 ≤ n → n.toNat ≤ k → n ≤ 9223372036854775807 → ∀ w, Rel w0 w →
    Calls Try.prog 28 #[.int .i64 n] w fun e w' => e = .returned (.string (B (decDigits n.toNat))) ∧ Rel w0 w' := by
  intro k
  induction k with
  | zero =>
    intro n h0 hk h1 w hr
    obtain rfl : n = 0 := by omega
    have hconv : ∀ w : World, (convert 77 9 (.slice (some ⟨w.heap.size, 0, none⟩) 1 1)).run Try.prog (w.alloc (.cells #[.int .u8 48] 5)) = .ok (.string (B [dgt 0])) (w.alloc (.cells #[.int .u8 48] 5)) := fun w => byte_string w 0 (by omega) (by omega)
    go_enter Try.func28, Try.ntmps28
    go_wp2_with (fail)
    go_ret
    exact ⟨ret_str (by rw [dd_last (by omega) (by omega)]; rfl), hr.alloc _⟩
  | succ k ih =>
    intro n h0 hk h1 w hr
    have b1 : 0 ≤ n % 10 := by omega
    have b2 : n % 10 ≤ 9 := by omega
    have hconv := fun w : World => byte_string w (n % 10) b1 b2
    by_cases h : 10 ≤ n
    · have HS := Lib.hid (dd_step h0 h)
      have z1 := dd_size (n / 10) (by omega)
      have z2 : (B [dgt (n % 10)]).size ≤ 1 := Nat.le_refl _
      have z3 : ¬ 9223372036854775807 < (B (decDigits (n / 10).toNat)).size + (B [dgt (n % 10)]).size := by omega
      go_enter Try.func28, Try.ntmps28
      go_wp2_with ((go_at_call 28; (with_reducible refine (ih (n / 10) (by omega) (by omega) (by omega) _ (hr.alloc _)).mono ?_); rintro e w' ⟨rfl, hr'⟩))
      go_ret
      exact ⟨ret_str (by rw [HS.out, B_append]), hr'⟩
    · have HS := Lib.hid (dd_last h0 h)
      go_enter Try.func28, Try.ntmps28
      go_wp2_with (fail)
      go_ret
      exact ⟨ret_str (by rw [HS.out]), hr.alloc _⟩
theorem decimal_any (n : Int) (h0 : 0 ≤ n) (h1 : n ≤ 9223372036854775807) (w0 w : World) (hr : Rel w0 w) :
    Calls Try.prog 28 #[.int .i64 n] w fun e w' => e = .returned (.string (B (decDigits n.toNat))) ∧ Rel w0 w' := ldec_any w0 _ n h0 (Nat.le_refl _) h1 w hr
end Go.Proofs.Ytfplhpkolcgpiaa

namespace Go.Proofs.Ytfplhpkolcgpiaa
open Go.RowKit Go.Lib
set_option linter.unusedVariables false
set_option linter.unusedSimpArgs false
theorem blk_of_cell {w : World} {a : Addr} {v : Value} (h : w.cell? a = some v) : a.block < w.heap.size := by
  rcases Nat.lt_or_ge a.block w.heap.size with hn | hn
  · exact hn
  · simp [World.cell?, Array.getElem?_eq_none hn] at h
theorem block_add (a : Addr) (n : Nat) : (a.add n).block = a.block := by unfold Addr.add; split <;> rfl
/-- Block g is just these cells, none of them frozen. -/
def Bk (w : World) (g : Nat) (t : TypeId) (cs : Array Value) : Prop := w.heap[g]? = some (.cells cs t (0, 0))
theorem Bk.lt {w : World} {g : Nat} {t : TypeId} {cs : Array Value} (h : Bk w g t cs) : g < w.heap.size := by
  rcases Nat.lt_or_ge g w.heap.size with h' | h'
  · exact h'
  · unfold Bk at h; rw [Array.getElem?_eq_none h'] at h; cases h
theorem Bk.cell {w : World} {g : Nat} {t : TypeId} {cs : Array Value} (h : Bk w g t cs) (i : Nat) : w.cell? ⟨g, i, none⟩ = cs[i]? := cell_of_row w g i cs t (0, 0) h
theorem Bk.frozen {w : World} {g : Nat} {t : TypeId} {cs : Array Value} (h : Bk w g t cs) (i : Nat) : w.frozen? ⟨g, i, none⟩ = false := by
  unfold Bk at h; simp [World.frozen?, h]
theorem Bk.new (w : World) (t : TypeId) (cs : Array Value) : Bk (w.alloc (.cells cs t)) w.heap.size t cs := heap_alloc_new w _
theorem Bk.alloc {w : World} {g : Nat} {t : TypeId} {cs : Array Value} (h : Bk w g t cs) (o : Obj) : Bk (w.alloc o) g t cs := (Below.heap_alloc w o g h.lt).trans h
theorem Bk.set_ {w : World} {g : Nat} {t : TypeId} {cs : Array Value} (h : Bk w g t cs) (i : Nat) (u : Value) : Bk (w.setCell ⟨g, i, none⟩ u) g t (cs.setIfInBounds i u) := by
  unfold Bk at h ⊢
  simp [World.setCell, Array.getElem?_modify, h]
theorem Bk.rel {w w' : World} {g : Nat} {t : TypeId} {cs : Array Value} (h : Bk w g t cs) (hr : Rel w w') : Bk w' g t cs := (hr.2.block g h.lt).trans h
theorem Bk.grown {w w' : World} {g : Nat} {t : TypeId} {cs : Array Value} (h : Bk w g t cs) {row : Option Nat} (hb : w.grownBy w' row) (hg : some g ≠ row) : Bk w' g t cs := (hb.block g h.lt hg).trans h
theorem Bk.drew {w : World} {g : Nat} {t : TypeId} {cs : Array Value} (h : Bk w g t cs) : Bk w.drew g t cs := h
theorem Rel.grown {w0 w w' : World} (h : Rel w0 w) {row : Option Nat} (hg : w.grownBy w' row) (hr : ∀ k, row = some k → w0.heap.size ≤ k) : Rel w0 w' := ⟨h.1, Below.grown h.2 hg h.2.size hr⟩
theorem own_rel {w w' : World} {base : Nat} {e : TypeId} {size n : Nat} {v : Value} {xs : List Value} (h : w.ownsRow base e size v n xs) (hr : Rel w w') : w'.ownsRow base e size v n xs :=
  h.kept (row := none) ⟨hr.2.os, hr.2.tape, hr.2.output, hr.2.size, fun k hk _ => hr.2.block k hk⟩ (by cases v.ownBlock <;> simp)
/-- What a value that owns a row looks like. -/
theorem own_slice {w : World} {base : Nat} {e : TypeId} {size n : Nat} {v : Value} {xs : List Value} (h : w.ownsRow base e size v n xs) : ∃ A c, v = .slice A n c ∧ c ≤ maxLen := by
  rcases h.2 with ⟨rfl, rfl⟩ | ⟨g, cap, cur, rfl, _, _, _, hm, _⟩
  · exact ⟨none, 0, rfl, Nat.zero_le _⟩
  · exact ⟨_, cap, rfl, hm⟩
theorem addr_at (g off k : Nat) : (⟨g, off, none⟩ : Addr).add k = ⟨g, off + k, none⟩ := by unfold Addr.add; split <;> simp_all
theorem Bk.two {w : World} {g : Nat} {t : TypeId} {x y : Value} (h : Bk w g t #[x, y]) :
    (w.cell? ⟨g, 0, none⟩ = some x ∧ w.cell? ⟨g, 1, none⟩ = some y) ∧ (w.frozen? ⟨g, 0, none⟩ = false ∧ w.frozen? ⟨g, 1, none⟩ = false) :=
  ⟨⟨h.cell 0, h.cell 1⟩, ⟨h.frozen 0, h.frozen 1⟩⟩
theorem Bk.put {w : World} {g : Nat} {t : TypeId} {x y : Value} (h : Bk w g t #[x, y]) (a b : Value) : Bk ((w.setCell ⟨g, 0, none⟩ a).setCell ⟨g, 1, none⟩ b) g t #[a, b] :=
  (h.set_ 0 a).set_ 1 b
end Go.Proofs.Ytfplhpkolcgpiaa

namespace Go.Proofs.Ytfplhpkolcgpiaa
open Go.RowKit Go.Lib
set_option linter.unusedVariables false
set_option linter.unusedSimpArgs false
section
variable {α : Type} {cl : α → List Value} {k : Nat}
theorem flat_len (hk : ∀ x, (cl x).length = k) (xs : List α) : (xs.flatMap cl).length = xs.length * k := by
  induction xs with
  | nil => simp
  | cons e t ih => rw [List.flatMap_cons, List.length_append, ih, hk, List.length_cons, Nat.succ_mul]; omega
theorem flat_at (hk : ∀ x, (cl x).length = k) (xs : List α) (i : Nat) (h : i < xs.length) (j : Nat) (hj : j < k) : (xs.flatMap cl)[i * k + j]? = (cl xs[i])[j]? := by
  induction xs generalizing i with
  | nil => simp at h
  | cons e t ih =>
    rw [List.flatMap_cons]
    cases i with
    | zero => rw [Nat.zero_mul, Nat.zero_add, List.getElem?_append_left (by rw [hk]; exact hj)]; rfl
    | succ i =>
      rw [List.getElem?_append_right (by rw [hk, Nat.succ_mul]; omega), hk, show (i + 1) * k + j - k = i * k + j by rw [Nat.succ_mul]; omega]
      exact ih i (by simpa using h)
/-- The cells from A on are these elements'. -/
def RowAt (cl : α → List Value) (k : Nat) (w : World) (A : Option Addr) (xs : List α) : Prop :=
  ∀ i (h : i < xs.length), ∃ (g off : Nat), A = some ⟨g, off, none⟩ ∧ g < w.heap.size ∧ ∀ j, j < k → w.cell? ⟨g, off + i * k + j, none⟩ = (cl xs[i])[j]?
theorem RowAt.nil (w : World) (A : Option Addr) : RowAt cl k w A [] := fun i h => absurd h (by simp)
theorem RowAt.below {w w' : World} {A : Option Addr} {xs : List α} (h : RowAt cl k w A xs) (hb : Below w.heap.size w w') : RowAt cl k w' A xs := by
  intro i hi
  obtain ⟨g, off, e, hl, h0⟩ := h i hi
  exact ⟨g, off, e, by have := hb.size; omega, fun j hj => (hb.cell (p := ⟨g, off + i * k + j, none⟩) hl).trans (h0 j hj)⟩
theorem RowAt.rel {w w' : World} {A : Option Addr} {xs : List α} (h : RowAt cl k w A xs) (hr : Rel w w') : RowAt cl k w' A xs := h.below hr.2
theorem RowAt.take {w : World} {A : Option Addr} {xs : List α} (h : RowAt cl k w A xs) (n : Nat) : RowAt cl k w A (xs.take n) := by
  intro i hi
  rw [List.length_take] at hi
  obtain ⟨g, off, e, hl, h0⟩ := h i (by omega)
  exact ⟨g, off, e, hl, fun j hj => by rw [List.getElem_take]; exact h0 j hj⟩
theorem RowAt.from {w : World} {g off : Nat} {xs : List α} (h : RowAt cl k w (some ⟨g, off, none⟩) xs) (n : Nat) : RowAt cl k w (some ⟨g, off + n * k, none⟩) (xs.drop n) := by
  intro i hi
  rw [List.length_drop] at hi
  obtain ⟨g', off', e, hl, h0⟩ := h (n + i) (by omega)
  injection e with e
  injection e with e1 e2
  subst e1; subst e2
  refine ⟨g, off + n * k, rfl, hl, fun j hj => ?_⟩
  rw [List.getElem_drop, show off + n * k + i * k + j = off + (n + i) * k + j by rw [Nat.add_mul]; omega]
  exact h0 j hj
theorem RowAt.of_bk (hk : ∀ x, (cl x).length = k) {T : TypeId} {w : World} {g : Nat} {xs : List α} (h : Bk w g T (xs.flatMap cl).toArray) : RowAt cl k w (some ⟨g, 0, none⟩) xs := by
  intro i hi
  refine ⟨g, 0, rfl, h.lt, fun j hj => ?_⟩
  rw [Nat.zero_add, h.cell, List.getElem?_toArray, flat_at hk xs i hi j hj]
/-- A row of the call's own. -/
def RowOwn (T : TypeId) (cl : α → List Value) (k : Nat) (w : World) (base : Nat) (v : Value) (xs : List α) : Prop := w.ownsRow base T k v xs.length (xs.flatMap cl)
theorem RowOwn.row {T : TypeId} {w : World} {base : Nat} {v : Value} {xs : List α} (h : RowOwn T cl k w base v xs) : w.ownsRow base T k v xs.length (xs.flatMap cl) := h
theorem RowOwn.nil (T : TypeId) (w : World) (base : Nat) : RowOwn T cl k w base (.slice none 0 0) [] := World.ownsRow_nil _ _ _ _
theorem RowOwn.rel {T : TypeId} {w w' : World} {base : Nat} {v : Value} {xs : List α} (h : RowOwn T cl k w base v xs) (hr : Rel w w') : RowOwn T cl k w' base v xs := own_rel h hr
theorem RowOwn.slice_of {T : TypeId} {w : World} {base : Nat} {v : Value} {xs : List α} (h : RowOwn T cl k w base v xs) : ∃ A c, v = .slice A xs.length c ∧ c ≤ maxLen := own_slice h.row
theorem RowOwn.at {T : TypeId} (hk : ∀ x, (cl x).length = k) {w : World} {base : Nat} {A : Option Addr} {n c : Nat} {xs : List α} (h : RowOwn T cl k w base (.slice A n c) xs) (hn : n = xs.length) : RowAt cl k w A xs := by
  intro i hi
  rcases h.2 with ⟨h0, h1⟩ | ⟨g, cap, cur, hv, hb, hh, _⟩
  · omega
  · have hA : A = some ⟨g, 0, none⟩ := by injection hv
    have hc := h.row.cells (g := g) (by rw [hA]; rfl)
    refine ⟨g, 0, hA, Bk.lt (t := T) hh, fun j hj => ?_⟩
    have hlt : j < (cl xs[i]).length := by rw [hk]; exact hj
    have e := flat_at hk xs i hi j hj
    rw [List.getElem?_eq_getElem hlt] at e ⊢
    have q := hc _ _ e
    rw [addr_at, Nat.zero_add] at q
    rw [Nat.zero_add]; exact q
theorem flat_snoc (xs : List α) (x : α) : (xs ++ [x]).flatMap cl = xs.flatMap cl ++ cl x := by simp
/-- Behind an append of one. -/
theorem RowOwn.more {T : TypeId} {w1 : World} {base g cap n : Nat} {xs : List α} {x : α} (hn : xs.length = n) (h : w1.ownsRow base T k (.slice (some ⟨g, 0, none⟩) (n + 1) cap) (n + 1) (xs.flatMap cl ++ cl x)) : RowOwn T cl k w1 base (.slice (some ⟨g, 0, none⟩) (n + 1) cap) (xs ++ [x]) := by
  subst hn
  unfold RowOwn
  rw [flat_snoc, show (xs ++ [x]).length = xs.length + 1 by simp]; exact h
/-- Behind a copy onto nothing: append(nil, xs...). -/
theorem RowOwn.copied {T : TypeId} {w1 : World} {base g cap n : Nat} {xs : List α} (hn : xs.length = n) (h : w1.ownsRow base T k (.slice (some ⟨g, 0, none⟩) (0 + n) cap) (0 + n) ([] ++ xs.flatMap cl)) : RowOwn T cl k w1 base (.slice (some ⟨g, 0, none⟩) n cap) xs := by
  subst hn
  rw [Nat.zero_add, List.nil_append] at h
  exact h
end
end Go.Proofs.Ytfplhpkolcgpiaa

namespace Go.Proofs.Ytfplhpkolcgpiaa
open Go.RowKit Go.Lib
set_option linter.unusedVariables false
set_option linter.unusedSimpArgs false
def cl3 (x : Sl) : List Value := [.string (B x.1), .int .i64 x.2.1, .int .i64 x.2.2]
def cl2 (x : Sn) : List Value := [.string (B x.1), .int .i64 x.2]
theorem cl3_len (x : Sl) : (cl3 x).length = 3 := rfl
theorem cl2_len (x : Sn) : (cl2 x).length = 2 := rfl
theorem cl3_one (x : Sl) : ∀ u ∈ cl3 x, u.oneCell' = true := by
  intro u hu
  simp only [cl3, List.mem_cons, List.not_mem_nil, or_false] at hu
  rcases hu with rfl | rfl | rfl <;> rfl
theorem cl2_one (x : Sn) : ∀ u ∈ cl2 x, u.oneCell' = true := by
  intro u hu
  simp only [cl2, List.mem_cons, List.not_mem_nil, or_false] at hu
  rcases hu with rfl | rfl <;> rfl
theorem flat_one {α : Type} {cl : α → List Value} (h : ∀ x, ∀ u ∈ cl x, u.oneCell' = true) (xs : List α) : ∀ u ∈ xs.flatMap cl, u.oneCell' = true := by
  intro u hu
  obtain ⟨x, _, hx⟩ := List.mem_flatMap.1 hu
  exact h x u hx
def in64 (n : Int) : Prop := -9223372036854775808 ≤ n ∧ n ≤ 9223372036854775807
/-- Slots whose fields fit a machine. -/
def SlFit (b : List Sl) : Prop := ∀ x ∈ b, x.1.length ≤ 9223372036854775807 ∧ in64 x.2.1 ∧ in64 x.2.2
/-- A book as an argument: of so many slots that a copy of them fits a machine. -/
def SlArg (w : World) (A : Option Addr) (c : Nat) (b : List Sl) : Prop := (A = none → c = 0) ∧ (b.length ≤ c ∧ c ≤ maxLen) ∧ b.length ≤ 4398046511104 ∧ SlFit b ∧ RowAt cl3 3 w A b
theorem SlArg.rel {w w' : World} {A : Option Addr} {c : Nat} {b : List Sl} (h : SlArg w A c b) (hr : Rel w w') : SlArg w' A c b := ⟨h.1, h.2.1, h.2.2.1, h.2.2.2.1, h.2.2.2.2.rel hr⟩
theorem SlArg.nil (w : World) : SlArg w none 0 [] := ⟨fun _ => rfl, ⟨Nat.le_refl _, Nat.zero_le _⟩, Nat.zero_le _, (fun x hx => by cases hx), RowAt.nil _ _⟩
theorem slot_at {w : World} {A : Option Addr} {b : List Sl} (h : RowAt cl3 3 w A b) {w' : World} (hr : Rel w w') (i : Nat) (hi : i < b.length) :
    ∃ (g off : Nat) (x : Sl), A = some ⟨g, off, none⟩ ∧ g < w.heap.size ∧ b[i] = x ∧ w'.cell? ⟨g, off + i * 3, none⟩ = some (.string (B x.1)) ∧ w'.cell? ⟨g, off + i * 3 + 1, none⟩ = some (.int .i64 x.2.1) ∧ w'.cell? ⟨g, off + i * 3 + 2, none⟩ = some (.int .i64 x.2.2) := by
  obtain ⟨g, off, e, hl, hc⟩ := h i hi
  have k : ∀ j, w'.cell? ⟨g, j, none⟩ = w.cell? ⟨g, j, none⟩ := fun j => hr.2.cell (p := ⟨g, j, none⟩) hl
  exact ⟨g, off, b[i], e, hl, rfl, (k _).trans (hc 0 (by omega)), (k _).trans (hc 1 (by omega)), (k _).trans (hc 2 (by omega))⟩
abbrev BkOwn (w : World) (base : Nat) (v : Value) (b : List Sl) : Prop := RowOwn 50 cl3 3 w base v b
theorem slot_info : (Try.prog.info? 50).map (fun i => (i.zero, i.size, i.bytes)) = some (some (.agg #[.string ⟨#[]⟩, .int .i64 0, .int .i64 0]), 3, 32) := by kernel_rfl
theorem three_of {w : World} {g : Nat} {t : TypeId} {a b c : Value} (h : Bk w g t #[a, b, c]) :
    (w.cell? ⟨g, 0, none⟩ = some a ∧ w.cell? ⟨g, 1, none⟩ = some b ∧ w.cell? ⟨g, 2, none⟩ = some c) ∧ (w.frozen? ⟨g, 0, none⟩ = false ∧ w.frozen? ⟨g, 1, none⟩ = false ∧ w.frozen? ⟨g, 2, none⟩ = false) :=
  ⟨⟨h.cell 0, h.cell 1, h.cell 2⟩, ⟨h.frozen 0, h.frozen 1, h.frozen 2⟩⟩
theorem bname_len {x : List UInt8} (h : isName x = true) : x.length ≤ 12 := by
  unfold isName at h
  simp only [Bool.and_eq_true, decide_eq_true_eq] at h
  exact h.1.1.1.2
theorem toBk (x : ByteArray) : x.toList = x.data.toList := by
  have := B_toList x.data.toList
  rwa [B_of] at this
theorem Bk_inj {x y : List UInt8} : B x = B y ↔ x = y := ⟨fun h => by have := congrArg (fun b : ByteArray => b.data.toList) h; simpa [B_list] using this, fun h => by rw [h]⟩
theorem bl_is (x y : List UInt8) : ((B x).toList == (B y).toList) = decide (x = y) := by
  rw [B_toList, B_toList]
  by_cases h : x = y
  · rw [h, decide_eq_true rfl]; simp
  · rw [decide_eq_false h]; simpa using h
end Go.Proofs.Ytfplhpkolcgpiaa

namespace Go.Proofs.Ytfplhpkolcgpiaa
open Go.RowKit Go.Lib
set_option linter.unusedVariables false
set_option linter.unusedSimpArgs false
/-- The place of a seller's first slot; none. -/
def AtIs (b : List Sl) (s : List UInt8) (r : Int) : Prop := (r = -1 ∧ hasB b s = false) ∨ ∃ i : Nat, r = (i : Int) ∧ ∃ hi : i < b.length, b[i].1 = s ∧ ∀ k (hk : k < b.length), k < i → b[k].1 ≠ s
end Go.Proofs.Ytfplhpkolcgpiaa

namespace Go.Proofs.Ytfplhpkolcgpiaa
open Go.RowKit Go.Lib
set_option linter.unusedVariables false
set_option linter.unusedSimpArgs false
theorem take_next {b : List Sl} {j : Nat} (h : j < b.length) : b.take (j + 1) = b.take j ++ [b[j]] := List.take_succ_eq_append_getElem h
theorem exp_next {b : List Sl} {j : Nat} (h : j < b.length) (now most : Int) : expB (b.take (j + 1)) now most = expB (b.take j) now most ++ (if now ≤ laterF b[j].2.2 most then [b[j]] else []) := by
  rw [take_next h]
  unfold expB
  rw [List.filter_append]
  by_cases e : now ≤ laterF b[j].2.2 most
  · rw [if_pos e, List.filter_cons_of_pos (by simpa using e)]; rfl
  · rw [if_neg e, List.filter_cons_of_neg (by simpa using e)]; rfl
theorem hasB_take {b : List Sl} {s : List UInt8} {i : Nat} (hi : i < b.length) (he : b[i].1 = s) (hk : ∀ k (h : k < b.length), k < i → b[k].1 ≠ s) : dropB b s = b.take i ++ b.drop (i + 1) := by
  induction b generalizing i with
  | nil => simp at hi
  | cons z r ih =>
    cases i with
    | zero => rw [dropB, if_pos (by simpa using he)]; simp
    | succ i =>
      have h0 := hk 0 (by simp) (by omega)
      rw [dropB, if_neg (by simpa using h0), ih (by simpa using hi) (by simpa using he) (fun k h hlt => by have := hk (k + 1) (by simpa using h) (by omega); simpa using this)]
      simp
end Go.Proofs.Ytfplhpkolcgpiaa

namespace Go.Proofs.Ytfplhpkolcgpiaa
open Go.RowKit Go.Lib
set_option linter.unusedVariables false
set_option linter.unusedSimpArgs false
theorem bt_isk (x y : ByteArray) : (x.toList == y.toList) = decide (x = y) := by
  by_cases h : x = y
  · rw [h, decide_eq_true rfl]; simp
  · rw [decide_eq_false h, toBk, toBk]
    simp only [beq_eq_false_iff_ne, ne_eq]
    exact fun e => h (by rw [← B_of x, ← B_of y, e])
theorem int_isk (x y : Int) : (x == y) = decide (x = y) := by
  by_cases h : x = y
  · rw [h, decide_eq_true rfl]; simp
  · rw [decide_eq_false h]; simpa using h
theorem slot_eq (W : World) (xs ys : ByteArray) (xp xt yp yt : Int) : (Op.equalIn 10000 50 (.agg #[.string xs, .int .i64 xp, .int .i64 xt]) (.agg #[.string ys, .int .i64 yp, .int .i64 yt])).run Try.prog W = .ok (xs.toList == ys.toList && (xp == yp && xt == yt)) W := by
  simp [go_sem, part]
  by_cases h0 : xs.toList = ys.toList
  · by_cases h1 : xp = yp
    · by_cases h2 : xt = yt <;> simp [h0, h1, h2]
    · simp [h0, h1]
  · simp [h0]
/-- Two slots compared. -/
theorem slot_is (x y : Sl) (xs ys : ByteArray) (xp xt yp yt : Int) (hx : B x.1 = xs ∧ x.2.1 = xp ∧ x.2.2 = xt) (hy : B y.1 = ys ∧ y.2.1 = yp ∧ y.2.2 = yt) (W : World) : (Op.equalIn 10000 50 (.agg #[.string xs, .int .i64 xp, .int .i64 xt]) (.agg #[.string ys, .int .i64 yp, .int .i64 yt])).run Try.prog W = .ok (decide (x = y)) W := by
  rw [slot_eq, bt_isk, int_isk, int_isk]
  obtain ⟨a0, a1, a2⟩ := hx
  obtain ⟨b0, b1, b2⟩ := hy
  subst a0; subst a1; subst a2; subst b0; subst b1; subst b2
  congr 1
  rw [Bool.eq_iff_iff]
  simp only [Bool.and_eq_true, decide_eq_true_eq, Bk_inj]
  obtain ⟨x1, x2, x3⟩ := x
  obtain ⟨y1, y2, y3⟩ := y
  simp only [Prod.mk.injEq]
end Go.Proofs.Ytfplhpkolcgpiaa

namespace Go.Proofs.Ytfplhpkolcgpiaa
open Go.RowKit Go.Lib
set_option linter.unusedVariables false
set_option linter.unusedSimpArgs false
theorem seen_at {w : World} {A : Option Addr} {b : List Sn} (h : RowAt cl2 2 w A b) {w' : World} (hr : Rel w w') (i : Nat) (hi : i < b.length) :
    ∃ (g off : Nat) (x : Sn), A = some ⟨g, off, none⟩ ∧ g < w.heap.size ∧ b[i] = x ∧ w'.cell? ⟨g, off + i * 2, none⟩ = some (.string (B x.1)) ∧ w'.cell? ⟨g, off + i * 2 + 1, none⟩ = some (.int .i64 x.2) := by
  obtain ⟨g, off, e, hl, hc⟩ := h i hi
  have k : ∀ j, w'.cell? ⟨g, j, none⟩ = w.cell? ⟨g, j, none⟩ := fun j => hr.2.cell (p := ⟨g, j, none⟩) hl
  exact ⟨g, off, b[i], e, hl, rfl, (k _).trans (hc 0 (by omega)), (k _).trans (hc 1 (by omega))⟩
def SnFit (b : List Sn) : Prop := ∀ x ∈ b, x.1.length ≤ 9223372036854775807 ∧ in64 x.2
def SnArg (w : World) (A : Option Addr) (c : Nat) (b : List Sn) : Prop := (A = none → c = 0) ∧ c ≤ maxLen ∧ b.length * 24 ≤ 140737488355328 ∧ SnFit b ∧ RowAt cl2 2 w A b
theorem SnArg.rel {w w' : World} {A : Option Addr} {c : Nat} {b : List Sn} (h : SnArg w A c b) (hr : Rel w w') : SnArg w' A c b := ⟨h.1, h.2.1, h.2.2.1, h.2.2.2.1, h.2.2.2.2.rel hr⟩
theorem SnArg.nil (w : World) : SnArg w none 0 [] := ⟨fun _ => rfl, Nat.zero_le _, Nat.zero_le _, (fun x hx => by cases hx), RowAt.nil _ _⟩
abbrev SnOwn (w : World) (base : Nat) (v : Value) (b : List Sn) : Prop := RowOwn 72 cl2 2 w base v b
theorem seen_info : (Try.prog.info? 72).map (fun i => (i.zero, i.size, i.bytes)) = some (some (.agg #[.string ⟨#[]⟩, .int .i64 0]), 2, 24) := by kernel_rfl
end Go.Proofs.Ytfplhpkolcgpiaa

namespace Go.Proofs.Ytfplhpkolcgpiaa
open Go.RowKit Go.Lib
set_option linter.unusedVariables false
set_option linter.unusedSimpArgs false
theorem off_next {b : List Sl} {j : Nat} (h : j < b.length) : offB (b.take (j + 1)) = offB (b.take j) ++ [(b[j].1, b[j].2.1)] := by
  unfold offB
  rw [take_next h, List.map_append]; rfl
abbrev FfOwn (w : World) (base : Nat) (v : Value) (b : List Sn) : Prop := RowOwn 41 cl2 2 w base v b
theorem offr_info : (Try.prog.info? 41).map (fun i => (i.zero, i.size, i.bytes)) = some (some (.agg #[.string ⟨#[]⟩, .int .i64 0]), 2, 24) := by kernel_rfl
end Go.Proofs.Ytfplhpkolcgpiaa

namespace Go.Proofs.Ytfplhpkolcgpiaa
open Go.RowKit Go.Lib
set_option linter.unusedVariables false
set_option linter.unusedSimpArgs false
theorem flat3_set {b : List Sl} {i : Nat} (hi : i < b.length) (y : Sl) : ((((b.flatMap cl3).set (i * 3) (.string (B y.1))).set (i * 3 + 1) (.int .i64 y.2.1)).set (i * 3 + 2) (.int .i64 y.2.2)) = (b.set i y).flatMap cl3 := by
  induction b generalizing i with
  | nil => simp at hi
  | cons z r ih =>
    rw [List.flatMap_cons]
    cases i with
    | zero => rfl
    | succ i =>
      have e : cl3 z = [.string (B z.1), .int .i64 z.2.1, .int .i64 z.2.2] := rfl
      rw [e, show (i + 1) * 3 = i * 3 + 3 by omega]
      show _ = ((z :: r.set i y)).flatMap cl3
      rw [List.flatMap_cons, ← ih (by simpa using hi), e]
      rfl
theorem repl_set {b : List Sl} {y : Sl} {i : Nat} (hi : i < b.length) (he : b[i].1 = y.1) (hk : ∀ k (h : k < b.length), k < i → b[k].1 ≠ y.1) : replB b y = b.set i y := by
  induction b generalizing i with
  | nil => simp at hi
  | cons z r ih =>
    cases i with
    | zero => rw [replB, if_pos (by simpa using he)]; rfl
    | succ i =>
      have h0 := hk 0 (by simp) (by omega)
      rw [replB, if_neg (by simpa using h0), ih (by simpa using hi) (by simpa using he) (fun k h hlt => by have := hk (k + 1) (by simpa using h) (by omega); simpa using this)]
      rfl
theorem add_any {g off : Nat} (j : Nat) : (⟨g, off, none⟩ : Addr).add j = ⟨g, off + j, none⟩ := addr_at g off j
end Go.Proofs.Ytfplhpkolcgpiaa

namespace Go.Proofs.Ytfplhpkolcgpiaa
open Go.Lib
set_option linter.unusedVariables false
set_option linter.unusedSimpArgs false
def theNames : List (List UInt8) := [[97], [98,111,98], [108,111,119,101,115], [97,99,109,101,57], [120,49], [101,108,115,101,101]]
def sellerL (k : Int) : List UInt8 := (theNames.getD (k % 6).toNat []) ++ decDigits (k / 6).toNat
theorem dd_one (n : Nat) (h : n < 10) : decDigits n = [UInt8.ofNat (48 + n)] := by rw [decDigits, dif_pos h]
theorem seller_eq (u : Int) (h0 : 0 ≤ u) (h1 : u < 60) : sellerL u = (theNames.getD (u.toNat % 6) []) ++ [UInt8.ofNat (48 + u.toNat / 6)] := by
  unfold sellerL
  rw [show (u % 6).toNat = u.toNat % 6 by omega, show (u / 6).toNat = u.toNat / 6 by omega, dd_one _ (by omega)]
theorem names_len : ∀ i : Fin 6, (theNames.getD i.val []).length ≤ 5 := by decide
end Go.Proofs.Ytfplhpkolcgpiaa

namespace Go.Proofs.Ytfplhpkolcgpiaa
open Go.RowKit Go.Lib
set_option linter.unusedVariables false
set_option linter.unusedSimpArgs false
abbrev TK (t : Tok) : Value := .agg #[.int .i64 t.1, .string (B t.2.1), .int .i64 t.2.2.1, .int .i64 t.2.2.2]
def cells4 (t : Tok) : List Value := [.int .i64 t.1, .string (B t.2.1), .int .i64 t.2.2.1, .int .i64 t.2.2.2]
def cellsOf (ts : List Tok) : List Value := ts.flatMap cells4
/-- The cells from A on are these tokens. -/
def ToksAt (w : World) (A : Option Addr) (ts : List Tok) : Prop :=
  ∀ i (h : i < ts.length), ∃ (g off : Nat), A = some ⟨g, off, none⟩ ∧ g < w.heap.size ∧ w.cell? ⟨g, off + i * 4, none⟩ = some (.int .i64 ts[i].1) ∧ w.cell? ⟨g, off + i * 4 + 1, none⟩ = some (.string (B ts[i].2.1)) ∧
    w.cell? ⟨g, off + i * 4 + 2, none⟩ = some (.int .i64 ts[i].2.2.1) ∧ w.cell? ⟨g, off + i * 4 + 3, none⟩ = some (.int .i64 ts[i].2.2.2)
theorem ToksAt.nil (w : World) (A : Option Addr) : ToksAt w A [] := fun i h => absurd h (by simp)
theorem ToksAt.below {w w' : World} {A : Option Addr} {ts : List Tok} (h : ToksAt w A ts) (hb : Below w.heap.size w w') : ToksAt w' A ts := by
  intro i hi
  obtain ⟨g, off, e, hl, h0, h1, h2, h3⟩ := h i hi
  have hk : ∀ j, w'.cell? ⟨g, j, none⟩ = w.cell? ⟨g, j, none⟩ := fun j => hb.cell (p := ⟨g, j, none⟩) hl
  exact ⟨g, off, e, by have := hb.size; omega, by rw [hk]; exact h0, by rw [hk]; exact h1, by rw [hk]; exact h2, by rw [hk]; exact h3⟩
theorem ToksAt.rel {w w' : World} {A : Option Addr} {ts : List Tok} (h : ToksAt w A ts) (hr : Rel w w') : ToksAt w' A ts := h.below hr.2
/-- The cells from A on are these pairs of numbers. -/
def PairsAt (w : World) (A : Option Addr) (zs : List (Int × Int)) : Prop :=
  ∀ i (h : i < zs.length), ∃ (a : Addr), A = some a ∧ a.block < w.heap.size ∧ w.cell? (a.add (i * 2)) = some (.int .i64 zs[i].1) ∧ w.cell? (a.add (i * 2 + 1)) = some (.int .i64 zs[i].2)
theorem PairsAt.below {w w' : World} {A : Option Addr} {zs : List (Int × Int)} (h : PairsAt w A zs) (hb : Below w.heap.size w w') : PairsAt w' A zs := by
  intro i hi
  obtain ⟨a, e, hl, h0, h1⟩ := h i hi
  have hk : ∀ j, w'.cell? (a.add j) = w.cell? (a.add j) := fun j => hb.cell (p := a.add j) (by rw [block_add]; exact hl)
  exact ⟨a, e, by have := hb.size; omega, by rw [hk]; exact h0, by rw [hk]; exact h1⟩
theorem PairsAt.rel {w w' : World} {A : Option Addr} {zs : List (Int × Int)} (h : PairsAt w A zs) (hr : Rel w w') : PairsAt w' A zs := h.below hr.2
/-- Pairs of raw numbers as an argument. -/
def PairsIn (w : World) (A : Option Addr) (n : Nat) (zs : List (Int × Int)) : Prop := zs.length = n ∧ n ≤ 9223372036854775807 ∧ (∀ z ∈ zs, (-9223372036854775808 ≤ z.1 ∧ z.1 ≤ 9223372036854775807) ∧ (-9223372036854775808 ≤ z.2 ∧ z.2 ≤ 9223372036854775807)) ∧ PairsAt w A zs
end Go.Proofs.Ytfplhpkolcgpiaa

namespace Go.Proofs.Ytfplhpkolcgpiaa
open Go.RowKit Go.Lib
set_option linter.unusedVariables false
set_option linter.unusedSimpArgs false
theorem B_zero (c : UInt8) (t : List UInt8) (h : 0 < (B (c :: t)).size) : (B (c :: t))[0]'h = c := rfl
end Go.Proofs.Ytfplhpkolcgpiaa

namespace Go.Proofs.Ytfplhpkolcgpiaa
open Go.RowKit Go.Lib
set_option linter.unusedVariables false
set_option linter.unusedSimpArgs false
theorem list_of {a b : ByteArray} : (a.toList == b.toList) = true ↔ a = b := by
  rw [beq_iff_eq]
  have e1 := B_toList a.data.toList
  have e2 := B_toList b.data.toList
  rw [B_of] at e1 e2
  rw [e1, e2]
  constructor
  · intro h; rw [← B_of a, h, B_of]
  · intro h; rw [h]
theorem list_ne {a b : ByteArray} (h : a ≠ b) : (a.toList == b.toList) = false := by
  cases e : (a.toList == b.toList)
  · rfl
  · exact absurd (list_of.1 e) h
theorem word_yes {s : ByteArray} {j : Nat} (hj : j < 11) (h : B (theWords.getD j []) = s) : isWord s.data.toList = true := by
  unfold isWord
  rw [List.any_eq_true]
  have hl : theWords.length = 11 := rfl
  refine ⟨theWords.getD j [], ?_, ?_⟩
  · rw [List.getD_eq_getElem?_getD, List.getElem?_eq_getElem (by omega)]; exact List.getElem_mem _
  · rw [← h, B_list]; simp
theorem word_no {s : ByteArray} (h : ∀ j < 11, B (theWords.getD j []) ≠ s) : isWord s.data.toList = false := by
  unfold isWord
  rw [List.any_eq_false]
  intro x hx
  obtain ⟨j, hj, rfl⟩ := List.getElem_of_mem hx
  have hl : theWords.length = 11 := rfl
  intro he
  refine h j (by omega) ?_
  rw [List.getD_eq_getElem?_getD, List.getElem?_eq_getElem hj]
  have he' : theWords[j] = s.data.toList := by simpa using he
  show B theWords[j] = s
  rw [he', B_of]
theorem B_cons_size (c : UInt8) (t : List UInt8) : (B (c :: t)).size = t.length + 1 := by rw [B_size]; rfl
def LD (c : UInt8) : Bool := isL c || isD c
theorem name_eq (c : UInt8) (t : List UInt8) : isName (c :: t) = (decide (t.length + 1 ≤ 12) && isL c && !isWord (c :: t) && (c :: t).all LD) := by
  unfold isName LD; simp
theorem all_bad {l : List UInt8} (j : Nat) (h : j < l.length) (hx : LD l[j] = false) : l.all LD = false := by
  rw [List.all_eq_false]
  exact ⟨l[j], List.getElem_mem h, by simp [hx]⟩
theorem all_more {l : List UInt8} (j : Nat) (h : j < l.length) (ha : (l.take j).all LD = true) (hx : LD l[j] = true) : (l.take (j + 1)).all LD = true := by
  rw [List.take_succ_eq_append_getElem h, List.all_append, ha]; simp [hx]
/-- What a run of parts is told as, at p. -/
def TokPost (l : List UInt8) (p : Int) (e : Ending) : Prop :=
  (∃ k n, tokOf l = some (k, n) ∧ e = .returned (.tuple #[TK (k, l, n, p), .bool true])) ∨ (tokOf l = none ∧ ∃ t, e = .returned (.tuple #[TK t, .bool false]))
end Go.Proofs.Ytfplhpkolcgpiaa

namespace Go.Proofs.Ytfplhpkolcgpiaa
open Go.RowKit Go.Lib
set_option linter.unusedVariables false
set_option linter.unusedSimpArgs false
def putE (b : List Sl) (s : List UInt8) (p k : Int) : Int := match putB b s p k with | .ok _ => 0 | .error e => e
def putV (b : List Sl) (s : List UInt8) (p k : Int) : List Sl := match putB b s p k with | .ok c => c | .error _ => []
def PutPost (b : List Sl) (s : List UInt8) (p k : Int) (w : World) (e : Ending) (w' : World) : Prop := ∃ A2 c2, e = .returned (.tuple #[.slice A2 (putV b s p k).length c2, .int .i64 (putE b s p k)]) ∧ BkOwn w' w.heap.size (.slice A2 (putV b s p k).length c2) (putV b s p k) ∧ Rel w w'
theorem put_no {b : List Sl} {s : List UInt8} {p k : Int} (h : putOk s p k = false) : putV b s p k = [] ∧ putE b s p k = 1 := by
  unfold putV putE putB; rw [h]; exact ⟨rfl, rfl⟩
theorem put_set {b : List Sl} {s : List UInt8} {p k : Int} (h : putOk s p k = true) {i : Nat} (hi : i < b.length) (he : b[i].1 = s) (hk : ∀ j (hj : j < b.length), j < i → b[j].1 ≠ s) : putV b s p k = b.set i (s, p, k) ∧ putE b s p k = 0 := by
  have hh : hasB b s = true := hasB_iff.2 ⟨b[i], List.getElem_mem _, he⟩
  have hr := repl_set (y := (s, p, k)) hi he hk
  unfold putV putE putB
  rw [h, hh, ← hr]; exact ⟨rfl, rfl⟩
theorem put_eight {b : List Sl} {s : List UInt8} {p k : Int} (h : putOk s p k = true) (hh : hasB b s = false) (h8 : 8 ≤ b.length) : putV b s p k = [] ∧ putE b s p k = 50 := by
  unfold putV putE putB
  rw [h, hh]
  simp only [if_true, Bool.false_eq_true, if_false, if_pos h8]
  exact ⟨trivial, trivial⟩
theorem put_new {b : List Sl} {s : List UInt8} {p k : Int} (h : putOk s p k = true) (hh : hasB b s = false) (h8 : ¬ 8 ≤ b.length) : putV b s p k = b ++ [(s, p, k)] ∧ putE b s p k = 0 := by
  unfold putV putE putB
  rw [h, hh]
  simp only [if_true, Bool.false_eq_true, if_false, if_neg h8]
  exact ⟨trivial, trivial⟩
-- PUT
theorem own_mono {w : World} {base base' : Nat} {e : TypeId} {size n : Nat} {v : Value} {xs : List Value} (h : w.ownsRow base e size v n xs) (hb : base' ≤ base) : w.ownsRow base' e size v n xs := by
  refine ⟨h.1, ?_⟩
  rcases h.2 with h0 | ⟨g, cap, cur, hv, hg, hr⟩
  · exact .inl h0
  · exact .inr ⟨g, cap, cur, hv, Nat.le_trans hb hg, hr⟩
end Go.Proofs.Ytfplhpkolcgpiaa
