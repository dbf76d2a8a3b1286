/- Plain mathematics of layer 2: decimal numerals and amounts as lists of bytes. No program in this text; Plain mathematics of layer 2, second part: amounts' texts, and what of a text is an amount. No program in this text; The base: texts as lists, the relation of worlds, the law's pick and numerals (with the listed table); Blocks that are known whole, rows of the call's own, and what is kept of them; Plain mathematics of layer 6: words, names, tokens, and what of a text is scanned. No program in this text; Plain mathematics of layer 6, second part: the law's pieces are tokens; what is no token is none. No program in this text; Tokens in memory, pairs of raw numbers; which tokens are the same; Plain mathematics of layer 7: expressions, their texts, sizes and depths. No program in this text; Plain mathematics of layer 7, second part: unlike right expressions have unlike texts; what is printed is scanned. No program in this text; Plain mathematics of layer 7, third part: what is printed is scanned; how long a text is. No program in this text; Plain mathematics of layer 7, fourth part: what the law makes of raw numbers. -/
import Derived.Test.YtcckemhelockaaaGreatDoorZL

namespace Go.Proofs.YtcckemhelockaaaGreatDoor
open Go.Lib
set_option linter.unusedVariables false
set_option linter.unusedSimpArgs false
def isD (c : UInt8) : Bool := decide (48 ≤ c.toNat ∧ c.toNat ≤ 57)
def val : List UInt8 → Int → Int
  | [], n => n
  | c :: t, n => val t (n * 10 + ((c.toNat : Int) - 48))
def allD (l : List UInt8) : Bool := l.all isD
def cano (l : List UInt8) : Bool := !l.isEmpty && allD l && (l.length == 1 || l.head? != some 48)
def cnt (l : List UInt8) (most : Int) : Int := if cano l && decide (val l 0 ≤ min most 1000000000000) then val l 0 else -1
theorem allD_cons {c : UInt8} {t : List UInt8} : allD (c :: t) = (isD c && allD t) := rfl
theorem allD_append {a b : List UInt8} : allD (a ++ b) = (allD a && allD b) := by simp [allD]
theorem val_append (a b : List UInt8) (n : Int) : val (a ++ b) n = val b (val a n) := by
  induction a generalizing n with
  | nil => rfl
  | cons c t ih => simp only [List.cons_append, val, ih]
theorem of48 {k : Nat} (h : k < 10) : (UInt8.ofNat (48 + k)).toNat = 48 + k := by
  simp [UInt8.toNat_ofNat']; omega
theorem dd_all (u : Nat) : allD (decDigits u) = true ∧ val (decDigits u) 0 = u ∧ (1 ≤ u → (decDigits u).head? ≠ some 48) ∧ (decDigits u).isEmpty = false := by
  induction u using Nat.strongRecOn with
  | _ u ih =>
    by_cases h : u < 10
    · rw [decDigits, dif_pos h]
      have h8 := of48 h
      refine ⟨by simp [allD, isD, h8]; omega, by simp only [val, h8]; omega, fun hu he => ?_, rfl⟩
      simp only [List.head?_cons, Option.some.injEq] at he
      have := congrArg UInt8.toNat he
      rw [h8] at this
      have h48 : (48 : UInt8).toNat = 48 := rfl
      omega
    · obtain ⟨a, b, c, d⟩ := ih (u / 10) (by omega)
      have h8 := of48 (show u % 10 < 10 by omega)
      rw [decDigits, dif_neg h]
      refine ⟨by rw [allD_append, a]; simp [allD, isD, h8]; omega, by rw [val_append, b]; simp only [val, h8]; omega, fun _ => ?_, by simp⟩
      have := c (by omega)
      cases e : decDigits (u / 10) with
      | nil => rw [e] at d; cases d
      | cons x t => rw [e] at this; simpa using this
end Go.Proofs.YtcckemhelockaaaGreatDoor

namespace Go.Proofs.YtcckemhelockaaaGreatDoor
open Go.Lib
set_option linter.unusedVariables false
set_option linter.unusedSimpArgs false
def rt (a : Int) : Bool := decide (-1000000000000 ≤ a ∧ a ≤ 1000000000000)
theorem rt_yes {a : Int} (h : -1000000000000 ≤ a) (h' : a ≤ 1000000000000) : rt a = true := by simp [rt, h, h']
theorem rt_iff {a : Int} : rt a = true ↔ -1000000000000 ≤ a ∧ a ≤ 1000000000000 := by simp [rt]
def pos (m : Nat) : List UInt8 := decDigits (m / 100) ++ ([46] ++ (decDigits (m / 10 % 10) ++ decDigits (m % 10)))
def txt (a : Int) : List UInt8 := if rt a then (if a < 0 then 45 :: pos a.natAbs else pos a.natAbs) else []
def negL (l : List UInt8) : Bool := l.head? == some 45
def body (l : List UInt8) : List UInt8 := if negL l then l.tail else l
def fin (neg : Bool) (m : Int) : Option Int := if 1000000000000 < m ∨ (neg = true ∧ m = 0) then none else some (if neg then -m else m)
def last3 (t : List UInt8) : Option (List UInt8 × UInt8 × UInt8) := match t.reverse with
  | d :: c :: e :: r => if e == 46 then some (r.reverse, c, d) else none
  | _ => none
def two (c d : UInt8) : Int := ((c.toNat : Int) - 48) * 10 + ((d.toNat : Int) - 48)
def prs (l : List UInt8) : Option Int := match last3 (body l) with
  | some (x, c, d) => if decide (0 ≤ cnt x 10000000000) && (isD c && isD d) then fin (negL l) (cnt x 10000000000 * 100 + two c d) else none
  | none => none
end Go.Proofs.YtcckemhelockaaaGreatDoor

namespace Go.Proofs.YtcckemhelockaaaGreatDoor
open Go.RowKit Go.Lib
set_option linter.unusedVariables false
set_option linter.unusedSimpArgs false
def B (l : List UInt8) : ByteArray := ⟨l.toArray⟩
theorem B_list (l : List UInt8) : (B l).data.toList = l := by simp [B]
theorem B_toList (l : List UInt8) : (B l).toList = l := ByteArray.toList_mk l
theorem B_of (s : ByteArray) : B s.data.toList = s := by simp [B]
theorem B_append (a b : List UInt8) : B a ++ B b = B (a ++ b) := ByteArray.mk_append_mk a b
theorem B_size (l : List UInt8) : (B l).size = l.length := by simp [B, ByteArray.size]
def pk (c n : Int) : Int := if c < 0 then -((c + 1).tmod n) else c % n
def Two (e : Ending) (x y : Int) : Prop := e = .returned (.tuple #[.int .i64 x, .int .i64 y])
def Tab (w : World) : Prop := Lib.TabIs Tryz.prog w "internal/strconv.uint64pow10" .u64 Lib.pow10Tab
theorem gTab : Tryz.prog.globalNamed "internal/strconv.uint64pow10" = some 0 := by kernel_rfl
def Rel (w0 w : World) : Prop := Tab w0 ∧ Below w0.heap.size w0 w
theorem Rel.tab {w0 w : World} (h : Rel w0 w) : Tab w := Joins.tab_stays gTab h.1 h.2 (Nat.le_refl _)
theorem Rel.self {w0 w : World} (h : Rel w0 w) : Rel w w := ⟨h.tab, Below.refl _ _⟩
theorem Rel.trans {w0 w w' : World} (h : Rel w0 w) (h' : Rel w w') : Rel w0 w' := ⟨h.1, h.2.trans (h'.2.mono h.2.size)⟩
theorem Rel.size {w0 w : World} (h : Rel w0 w) : w0.heap.size ≤ w.heap.size := h.2.size
theorem Rel.start {w : World} (h : Tab w) : Rel w w := ⟨h, Below.refl _ _⟩
theorem Rel.step {w0 w w' : World} (h : Rel w0 w) (hb : Below w.heap.size w w') : Rel w0 w' := ⟨h.1, h.2.trans (hb.mono h.2.size)⟩
theorem Rel.alloc {w0 w : World} (h : Rel w0 w) (o : Obj) : Rel w0 (w.alloc o) := ⟨h.1, h.2.alloc h.2.size o⟩
theorem Rel.drew {w0 w : World} (h : Rel w0 w) : Rel w0 w.drew := ⟨h.1, h.2.drew⟩
theorem Rel.drewN {w0 w : World} (h : Rel w0 w) (n : Nat) : Rel w0 (w.drewN n) := ⟨h.1, ⟨h.2.os, h.2.tape, h.2.output, h.2.size, h.2.block⟩⟩
theorem Rel.setCell {w0 w : World} (h : Rel w0 w) {p : Addr} (hp : w0.heap.size ≤ p.block) (u : Value) : Rel w0 (w.setCell p u) := ⟨h.1, h.2.setCell hp u⟩
theorem Rel.grow {w0 w : World} (h : Rel w0 w) (os : Array Obj) : Rel w0 (Sort.grow w os) := by
  refine h.step ⟨rfl, rfl, rfl, ?_, fun k hk => ?_⟩
  · show w.heap.size ≤ (w.heap ++ os).size
    rw [Array.size_append]; omega
  · show (w.heap ++ os)[k]? = w.heap[k]?
    rw [Array.getElem?_append_left hk]
theorem ret_int {k : IntKind} {a b : Int} (h : a = b) : Ending.returned (.int k a) = .returned (.int k b) := by rw [h]
theorem ret_bool {a b : Bool} (h : a = b) : Ending.returned (.bool a) = .returned (.bool b) := by rw [h]
theorem ret_str {a b : ByteArray} (h : a = b) : Ending.returned (.string a) = .returned (.string b) := by rw [h]
theorem tdt (p n : Int) (hn : 0 < n) : n * p.tdiv n + p.tmod n = p ∧ (0 ≤ p → 0 ≤ p.tmod n) ∧ (p ≤ 0 → p.tmod n ≤ 0) ∧ p.tmod n < n ∧ -n < p.tmod n := by
  refine ⟨Int.mul_tdiv_add_tmod p n, fun h => Int.tmod_nonneg n h, fun h => ?_, Int.tmod_lt_of_pos p hn, ?_⟩
  · have := Int.tmod_nonneg n (a := -p) (by omega)
    rw [Int.neg_tmod] at this; omega
  · have := Int.tmod_lt_of_pos (-p) hn
    rw [Int.neg_tmod] at this; omega
theorem pk_bd (c n : Int) (hn : 0 < n) : 0 ≤ pk c n ∧ pk c n < n := by
  unfold pk
  split
  · have := tdt (c + 1) n hn; omega
  · exact ⟨Int.emod_nonneg c (by omega), Int.emod_lt_of_pos c hn⟩
set_option maxHeartbeats 400000 in
theorem pick_any (c n : Int) (hc : -9223372036854775808 ≤ c) (hc' : c ≤ 9223372036854775807) (hn : 0 < n) (hn' : n ≤ 9223372036854775807) (w : World) :
    Calls Tryz.prog 39 #[.int .i64 c, .int .i64 n] w fun e w' => e = .returned (.int .i64 (pk c n)) ∧ w = w' := by
  by_cases h : c < 0
  all_goals
    go_enter Tryz.func39, Tryz.ntmps39
    go_wp2
    all_goals
      go_ret
      exact ⟨ret_int (by unfold pk; split <;> first | rfl | omega), rfl⟩
theorem bool_at {f : FuncId} {args : Array Value} {w : World} {R : World → Prop} {x : Bool} (y : Bool) (c : Calls Tryz.prog f args w fun e w' => e = .returned (.bool x) ∧ R w') (h : Hid (x = y)) : Calls Tryz.prog f args w fun e w' => e = .returned (.bool y) ∧ R w' := by
  have e := h.out; subst e; exact c
def dgt (d : Int) : UInt8 := UInt8.ofNat (48 + d.toNat)
theorem dd_step {n : Int} (h : 0 ≤ n) (h' : 10 ≤ n) : decDigits n.toNat = decDigits (n / 10).toNat ++ [dgt (n % 10)] := by
  unfold dgt
  rw [decDigits, dif_neg (by omega)]
  congr 2
  · omega
  · congr 2; omega
theorem dd_last {n : Int} (h : 0 ≤ n) (h' : ¬ 10 ≤ n) : decDigits n.toNat = [dgt (n % 10)] := by
  unfold dgt
  rw [decDigits, dif_pos (by omega)]
  congr 2; omega
theorem nd_le (k u : Nat) (h : u < 10 ^ k) (hk : 1 ≤ k) : (decDigits u).length ≤ k := by
  induction k generalizing u with
  | zero => omega
  | succ k ih =>
    rw [decDigits]
    split
    · simp
    · rename_i h10
      have hk' : 1 ≤ k := by
        rcases k with _ | k
        · simp at h; omega
        · omega
      have := ih (u / 10) (by rw [Nat.pow_succ] at h; omega) hk'
      simp
      omega
theorem dd_size (n : Int) (h : n ≤ 9223372036854775807) : (B (decDigits n.toNat)).size ≤ 19 := by
  rw [B_size]
  exact nd_le 19 n.toNat (by have e : 10 ^ 19 = 10000000000000000000 := by decide
                             omega) (by omega)
theorem byte_string (w : World) (d : Int) (h0 : 0 ≤ d) (h1 : d ≤ 9) : (convert 119 9 (.slice (some ⟨w.heap.size, 0, none⟩) 1 1)).run Tryz.prog (w.alloc (.cells #[.int .u8 (48 + d)] 5)) =
    .ok (.string (B [dgt d])) (w.alloc (.cells #[.int .u8 (48 + d)] 5)) := by
  have e : (48 + d : Int) = ((UInt8.ofNat (48 + d.toNat)).toNat : Int) := by rw [of48 (by omega)]; omega
  rw [e]
  exact run_convert_bytes_back (P := Tryz.prog) _ 119 9 5 ⟨w.heap.size, 0, none⟩ 1 [UInt8.ofNat (48 + d.toNat)] Tryz.underlying119 Tryz.underlying5 Tryz.underlying9 (fun j hj => by
    obtain rfl : j = 0 := by simpa using hj
    simp [Addr.add, go_sem])
set_option maxHeartbeats 400000 in
theorem ldec_any (w0 : World) : ∀ (k : Nat) (n : Int), 0 ≤ n → n.toNat ≤ k → n ≤ 9223372036854775807 → ∀ w, Rel w0 w →
    Calls Tryz.prog 40 #[.int .i64 n] w fun e w' => e = .returned (.string (B (decDigits n.toNat))) ∧ Rel w0 w' := by
  intro k
  induction k with
  | zero =>
    intro n h0 hk h1 w hr
    obtain rfl : n = 0 := by omega
    have hconv : ∀ w : World, (convert 119 9 (.slice (some ⟨w.heap.size, 0, none⟩) 1 1)).run Tryz.prog (w.alloc (.cells #[.int .u8 48] 5)) = .ok (.string (B [dgt 0])) (w.alloc (.cells #[.int .u8 48] 5)) := fun w => byte_string w 0 (by omega) (by omega)
    go_enter Tryz.func40, Tryz.ntmps40
    go_wp2_with (fail)
    go_ret
    exact ⟨ret_str (by rw [dd_last (by omega) (by omega)]; rfl), hr.alloc _⟩
  | succ k ih =>
    intro n h0 hk h1 w hr
    have b1 : 0 ≤ n % 10 := by omega
    have b2 : n % 10 ≤ 9 := by omega
    have hconv := fun w : World => byte_string w (n % 10) b1 b2
    by_cases h : 10 ≤ n
    · have HS := Lib.hid (dd_step h0 h)
      have z1 := dd_size (n / 10) (by omega)
      have z2 : (B [dgt (n % 10)]).size ≤ 1 := Nat.le_refl _
      have z3 : ¬ 9223372036854775807 < (B (decDigits (n / 10).toNat)).size + (B [dgt (n % 10)]).size := by omega
      go_enter Tryz.func40, Tryz.ntmps40
      go_wp2_with ((go_at_call 40; (with_reducible refine (ih (n / 10) (by omega) (by omega) (by omega) _ (hr.alloc _)).mono ?_); rintro e w' ⟨rfl, hr'⟩))
      go_ret
      exact ⟨ret_str (by rw [HS.out, B_append]), hr'⟩
    · have HS := Lib.hid (dd_last h0 h)
      go_enter Tryz.func40, Tryz.ntmps40
      go_wp2_with (fail)
      go_ret
      exact ⟨ret_str (by rw [HS.out]), hr.alloc _⟩
theorem decimal_any (n : Int) (h0 : 0 ≤ n) (h1 : n ≤ 9223372036854775807) (w0 w : World) (hr : Rel w0 w) :
    Calls Tryz.prog 40 #[.int .i64 n] w fun e w' => e = .returned (.string (B (decDigits n.toNat))) ∧ Rel w0 w' := ldec_any w0 _ n h0 (Nat.le_refl _) h1 w hr
end Go.Proofs.YtcckemhelockaaaGreatDoor

namespace Go.Proofs.YtcckemhelockaaaGreatDoor
open Go.RowKit Go.Lib
set_option linter.unusedVariables false
set_option linter.unusedSimpArgs false
theorem blk_of_cell {w : World} {a : Addr} {v : Value} (h : w.cell? a = some v) : a.block < w.heap.size := by
  rcases Nat.lt_or_ge a.block w.heap.size with hn | hn
  · exact hn
  · simp [World.cell?, Array.getElem?_eq_none hn] at h
theorem block_add (a : Addr) (n : Nat) : (a.add n).block = a.block := by unfold Addr.add; split <;> rfl
/-- Block g is just these cells, none of them frozen. -/
def Bk (w : World) (g : Nat) (t : TypeId) (cs : Array Value) : Prop := w.heap[g]? = some (.cells cs t (0, 0))
theorem Bk.lt {w : World} {g : Nat} {t : TypeId} {cs : Array Value} (h : Bk w g t cs) : g < w.heap.size := by
  rcases Nat.lt_or_ge g w.heap.size with h' | h'
  · exact h'
  · unfold Bk at h; rw [Array.getElem?_eq_none h'] at h; cases h
theorem Bk.cell {w : World} {g : Nat} {t : TypeId} {cs : Array Value} (h : Bk w g t cs) (i : Nat) : w.cell? ⟨g, i, none⟩ = cs[i]? := cell_of_row w g i cs t (0, 0) h
theorem Bk.frozen {w : World} {g : Nat} {t : TypeId} {cs : Array Value} (h : Bk w g t cs) (i : Nat) : w.frozen? ⟨g, i, none⟩ = false := by
  unfold Bk at h; simp [World.frozen?, h]
theorem Bk.new (w : World) (t : TypeId) (cs : Array Value) : Bk (w.alloc (.cells cs t)) w.heap.size t cs := heap_alloc_new w _
theorem Bk.alloc {w : World} {g : Nat} {t : TypeId} {cs : Array Value} (h : Bk w g t cs) (o : Obj) : Bk (w.alloc o) g t cs := (Below.heap_alloc w o g h.lt).trans h
theorem Bk.set_ {w : World} {g : Nat} {t : TypeId} {cs : Array Value} (h : Bk w g t cs) (i : Nat) (u : Value) : Bk (w.setCell ⟨g, i, none⟩ u) g t (cs.setIfInBounds i u) := by
  unfold Bk at h ⊢
  simp [World.setCell, Array.getElem?_modify, h]
theorem Bk.far {w : World} {g : Nat} {t : TypeId} {cs : Array Value} (h : Bk w g t cs) {p : Addr} (hp : g ≠ p.block) (u : Value) : Bk (w.setCell p u) g t cs := (Below.heap_setCell w p u g hp).trans h
theorem Bk.rel {w w' : World} {g : Nat} {t : TypeId} {cs : Array Value} (h : Bk w g t cs) (hr : Rel w w') : Bk w' g t cs := (hr.2.block g h.lt).trans h
theorem Bk.grown {w w' : World} {g : Nat} {t : TypeId} {cs : Array Value} (h : Bk w g t cs) {row : Option Nat} (hb : w.grownBy w' row) (hg : some g ≠ row) : Bk w' g t cs := (hb.block g h.lt hg).trans h
theorem Bk.drew {w : World} {g : Nat} {t : TypeId} {cs : Array Value} (h : Bk w g t cs) : Bk w.drew g t cs := h
theorem Bk.ne {w : World} {g g' : Nat} {t t' : TypeId} {cs cs' : Array Value} (h : Bk w g t cs) (h' : Bk w g' t' cs') (hne : t ≠ t') : g ≠ g' := by
  rintro rfl
  unfold Bk at h h'
  rw [h] at h'
  injection h' with h'
  injection h' with _ ht
  exact hne ht
theorem own_ne {w : World} {base : Nat} {e : TypeId} {size n : Nat} {v : Value} {xs : List Value} {g : Nat} {t : TypeId} {cs : Array Value} (h : w.ownsRow base e size v n xs) (hg : Bk w g t cs) (hne : e ≠ t) : some g ≠ v.ownBlock := by
  rcases h.2 with ⟨rfl, _⟩ | ⟨g', cap, cur, rfl, _, hh, _⟩
  · simp [Value.ownBlock]
  · intro he
    have : g = g' := by simpa [Value.ownBlock] using he
    subst this
    exact Bk.ne (t := e) hh hg hne rfl
theorem Rel.grown {w0 w w' : World} (h : Rel w0 w) {row : Option Nat} (hg : w.grownBy w' row) (hr : ∀ k, row = some k → w0.heap.size ≤ k) : Rel w0 w' := ⟨h.1, Below.grown h.2 hg h.2.size hr⟩
theorem own_rel {w w' : World} {base : Nat} {e : TypeId} {size n : Nat} {v : Value} {xs : List Value} (h : w.ownsRow base e size v n xs) (hr : Rel w w') : w'.ownsRow base e size v n xs :=
  h.kept (row := none) ⟨hr.2.os, hr.2.tape, hr.2.output, hr.2.size, fun k hk _ => hr.2.block k hk⟩ (by cases v.ownBlock <;> simp)
theorem own_set {w : World} {base : Nat} {e : TypeId} {size n : Nat} {v : Value} {xs : List Value} (h : w.ownsRow base e size v n xs) {p : Addr} (hp : some p.block ≠ v.ownBlock) (u : Value) : (w.setCell p u).ownsRow base e size v n xs :=
  h.kept (row := some p.block) ⟨rfl, rfl, rfl, by simp, fun k hk hne => Below.heap_setCell w p u k (fun e => hne (by rw [e]))⟩ (by
    cases hv : v.ownBlock with
    | none => exact .inl rfl
    | some k => exact .inr (by rw [hv] at hp; exact Ne.symm hp))
/-- What a value that owns a row looks like. -/
theorem own_slice {w : World} {base : Nat} {e : TypeId} {size n : Nat} {v : Value} {xs : List Value} (h : w.ownsRow base e size v n xs) : ∃ A c, v = .slice A n c ∧ c ≤ maxLen := by
  rcases h.2 with ⟨rfl, rfl⟩ | ⟨g, cap, cur, rfl, _, _, _, hm, _⟩
  · exact ⟨none, 0, rfl, Nat.zero_le _⟩
  · exact ⟨_, cap, rfl, hm⟩
theorem addr_at (g off k : Nat) : (⟨g, off, none⟩ : Addr).add k = ⟨g, off + k, none⟩ := by unfold Addr.add; split <;> simp_all
theorem Bk.two {w : World} {g : Nat} {t : TypeId} {x y : Value} (h : Bk w g t #[x, y]) :
    (w.cell? ⟨g, 0, none⟩ = some x ∧ w.cell? ⟨g, 1, none⟩ = some y) ∧ (w.frozen? ⟨g, 0, none⟩ = false ∧ w.frozen? ⟨g, 1, none⟩ = false) :=
  ⟨⟨h.cell 0, h.cell 1⟩, ⟨h.frozen 0, h.frozen 1⟩⟩
theorem Bk.put {w : World} {g : Nat} {t : TypeId} {x y : Value} (h : Bk w g t #[x, y]) (a b : Value) : Bk ((w.setCell ⟨g, 0, none⟩ a).setCell ⟨g, 1, none⟩ b) g t #[a, b] :=
  (h.set_ 0 a).set_ 1 b
end Go.Proofs.YtcckemhelockaaaGreatDoor

namespace Go.Proofs.YtcckemhelockaaaGreatDoor
open Go.Lib
set_option linter.unusedVariables false
set_option linter.unusedSimpArgs false
def isL (c : UInt8) : Bool := decide (97 ≤ c.toNat ∧ c.toNat ≤ 122)
def isPt (c : UInt8) : Bool := isL c || isD c || c == 46
def isBl (c : UInt8) : Bool := c == 32 || c == 10
def isSg (c : UInt8) : Bool := c == 40 || c == 41 || c == 44
def theWords : List (List UInt8) := [[108,111,119,101,115,116], [115,101,99,111,110,100], [102,114,111,109], [108,101,115,115], [99,117,116], [109,105,110], [109,97,120], [101,108,115,101], [105,102], [109,111,114,101], [97,98,111,118,101]]
def isWord (l : List UInt8) : Bool := theWords.any (· == l)
def isName (l : List UInt8) : Bool := decide (l ≠ [] ∧ l.length ≤ 12) && (l.head?.any isL) && !isWord l && l.all (fun c => isL c || isD c)
/-- A token: its kind, its text, its number, its place. -/
abbrev Tok := Int × List UInt8 × Int × Int
/-- What a run of parts is: a kind and a number. -/
def tokOf (x : List UInt8) : Option (Int × Int) :=
  if isWord x || isName x then some (1, 0)
  else if 0 ≤ cnt x 100000 then some (2, cnt x 100000)
  else match prs x with
    | some a => some (3, a)
    | none => none
/-- What is scanned: tokens, or the place of what is none. -/
abbrev Scan := Except Nat (List Tok)
def pre (ts : List Tok) : Scan → Scan
  | .ok l => .ok (ts ++ l)
  | .error k => .error k
theorem pre_nil (r : Scan) : pre [] r = r := by cases r <;> rfl
theorem pre_pre (a b : List Tok) (r : Scan) : pre a (pre b r) = pre (a ++ b) r := by cases r <;> simp [pre]
theorem run_len (l : List UInt8) : (l.dropWhile isPt).length = l.length - (l.takeWhile isPt).length := by
  have := congrArg List.length (List.takeWhile_append_dropWhile (p := isPt) (l := l))
  simp only [List.length_append] at this
  omega
theorem tokOf_nil : tokOf [] = none := by decide
theorem tokOf_ne {x : List UInt8} {k n : Int} (h : tokOf x = some (k, n)) : x ≠ [] := by
  rintro rfl; rw [tokOf_nil] at h; cases h
def lx (p : Nat) (l : List UInt8) : Scan :=
  match l with
  | [] => .ok [(5, [], 0, (p : Int))]
  | c :: t =>
    if isBl c then lx (p + 1) t
    else if isSg c then pre [(4, [c], 0, (p : Int))] (lx (p + 1) t)
    else
      match h : tokOf ((c :: t).takeWhile isPt) with
      | none => .error p
      | some kn => pre [(kn.1, (c :: t).takeWhile isPt, kn.2, (p : Int))] (lx (p + ((c :: t).takeWhile isPt).length) ((c :: t).dropWhile isPt))
  termination_by l.length
  decreasing_by
    all_goals simp_wf
    have h1 := tokOf_ne (k := kn.1) (n := kn.2) h
    have h2 := run_len (c :: t)
    have h3 : 1 ≤ ((c :: t).takeWhile isPt).length := by
      rcases hx : (c :: t).takeWhile isPt with _ | ⟨a, b⟩
      · exact absurd hx h1
      · simp
    simp at h2 h3 ⊢
    omega
theorem lx_blank (p : Nat) (c : UInt8) (t : List UInt8) (h : isBl c = true) : lx p (c :: t) = lx (p + 1) t := by rw [lx, if_pos h]
theorem lx_sign (p : Nat) (c : UInt8) (t : List UInt8) (h : isBl c = false) (h' : isSg c = true) : lx p (c :: t) = pre [(4, [c], 0, (p : Int))] (lx (p + 1) t) := by
  rw [lx, if_neg (by rw [h]; simp), if_pos h']
theorem lx_bad (p : Nat) (c : UInt8) (t : List UInt8) (h : isBl c = false) (h' : isSg c = false) (hn : tokOf ((c :: t).takeWhile isPt) = none) : lx p (c :: t) = .error p := by
  rw [lx, if_neg (by rw [h]; simp), if_neg (by rw [h']; simp)]
  split
  · rfl
  · rename_i h2; rw [hn] at h2; cases h2
/-- A token that stands by itself. -/
def Good (x : List UInt8) (k n : Int) : Prop := (∃ c, x = [c] ∧ isSg c = true ∧ k = 4 ∧ n = 0) ∨ (x ≠ [] ∧ x.all isPt = true ∧ tokOf x = some (k, n))
/-- No part stands at the beginning. -/
def stops (r : List UInt8) : Bool := r.head?.all fun c => !isPt c
/-- Each token stands at q or behind, and behind the one ahead of it. -/
def Ord : Int → List Tok → Prop
  | _, [] => True
  | q, t :: ts => q ≤ t.2.2.2 ∧ Ord (t.2.2.2 + (t.2.1.length : Int)) ts
theorem Ord.mono {q q' : Int} {ts : List Tok} (h : Ord q ts) (hq : q' ≤ q) : Ord q' ts := by
  cases ts with
  | nil => trivial
  | cons t ts => exact ⟨by have := h.1; omega, h.2⟩
theorem Ord.at {ts : List Tok} {q : Int} (h : Ord q ts) (i : Nat) (hi : i + 1 < ts.length) : ts[i].2.2.2 + (ts[i].2.1.length : Int) ≤ ts[i + 1].2.2.2 := by
  induction ts generalizing i q with
  | nil => simp at hi
  | cons t ts ih =>
    cases i with
    | zero =>
      cases ts with
      | nil => simp at hi
      | cons u us => exact h.2.1
    | succ i => exact ih h.2 i (by simpa using hi)
end Go.Proofs.YtcckemhelockaaaGreatDoor

namespace Go.Proofs.YtcckemhelockaaaGreatDoor
open Go.Lib
set_option linter.unusedVariables false
set_option linter.unusedSimpArgs false
def theNames : List (List UInt8) := [[97], [98,111,98], [108,111,119,101,115], [97,99,109,101,57], [120,49], [101,108,115,101,101]]
def sellerL (k : Int) : List UInt8 := (theNames.getD (k % 6).toNat []) ++ decDigits (k / 6).toNat
theorem dd_cons (u : Nat) : ∃ c t, decDigits u = c :: t ∧ isD c = true := by
  obtain ⟨h1, _, _, h4⟩ := dd_all u
  cases h : decDigits u with
  | nil => rw [h] at h4; cases h4
  | cons c t =>
    rw [h, allD_cons, Bool.and_eq_true] at h1
    exact ⟨c, t, rfl, h1.1⟩
def goodB (x : List UInt8) : Bool := !x.isEmpty && x.all isPt && (isWord x || isName x)
theorem good_word {x : List UInt8} (h : goodB x = true) : Good x 1 0 := by
  simp only [goodB, Bool.and_eq_true] at h
  refine .inr ⟨by rintro rfl; simp at h, h.1.2, ?_⟩
  unfold tokOf; rw [if_pos h.2]
theorem dd_one (n : Nat) (h : n < 10) : decDigits n = [UInt8.ofNat (48 + n)] := by rw [decDigits, dif_pos h]
theorem seller_eq (u : Int) (h0 : 0 ≤ u) (h1 : u < 60) : sellerL u = (theNames.getD (u.toNat % 6) []) ++ [UInt8.ofNat (48 + u.toNat / 6)] := by
  unfold sellerL
  rw [show (u % 6).toNat = u.toNat % 6 by omega, show (u / 6).toNat = u.toNat / 6 by omega, dd_one _ (by omega)]
theorem names_len : ∀ i : Fin 6, (theNames.getD i.val []).length ≤ 5 := by decide
theorem dd_len (k u : Nat) (h : u < 10 ^ k) (hk : 1 ≤ k) : (decDigits u).length ≤ k := by
  induction k generalizing u with
  | zero => omega
  | succ k ih =>
    rw [decDigits]
    split
    · simp
    · rename_i h10
      have hk' : 1 ≤ k := by
        rcases k with _ | k
        · simp at h; omega
        · omega
      have := ih (u / 10) (by rw [Nat.pow_succ] at h; omega) hk'
      simp
      omega
end Go.Proofs.YtcckemhelockaaaGreatDoor

namespace Go.Proofs.YtcckemhelockaaaGreatDoor
open Go.RowKit Go.Lib
set_option linter.unusedVariables false
set_option linter.unusedSimpArgs false
abbrev TK (t : Tok) : Value := .agg #[.int .i64 t.1, .string (B t.2.1), .int .i64 t.2.2.1, .int .i64 t.2.2.2]
def cells4 (t : Tok) : List Value := [.int .i64 t.1, .string (B t.2.1), .int .i64 t.2.2.1, .int .i64 t.2.2.2]
def cellsOf (ts : List Tok) : List Value := ts.flatMap cells4
/-- The cells from A on are these tokens. -/
def ToksAt (w : World) (A : Option Addr) (ts : List Tok) : Prop :=
  ∀ i (h : i < ts.length), ∃ (g off : Nat), A = some ⟨g, off, none⟩ ∧ g < w.heap.size ∧ w.cell? ⟨g, off + i * 4, none⟩ = some (.int .i64 ts[i].1) ∧ w.cell? ⟨g, off + i * 4 + 1, none⟩ = some (.string (B ts[i].2.1)) ∧
    w.cell? ⟨g, off + i * 4 + 2, none⟩ = some (.int .i64 ts[i].2.2.1) ∧ w.cell? ⟨g, off + i * 4 + 3, none⟩ = some (.int .i64 ts[i].2.2.2)
theorem ToksAt.nil (w : World) (A : Option Addr) : ToksAt w A [] := fun i h => absurd h (by simp)
theorem ToksAt.below {w w' : World} {A : Option Addr} {ts : List Tok} (h : ToksAt w A ts) (hb : Below w.heap.size w w') : ToksAt w' A ts := by
  intro i hi
  obtain ⟨g, off, e, hl, h0, h1, h2, h3⟩ := h i hi
  have hk : ∀ j, w'.cell? ⟨g, j, none⟩ = w.cell? ⟨g, j, none⟩ := fun j => hb.cell (p := ⟨g, j, none⟩) hl
  exact ⟨g, off, e, by have := hb.size; omega, by rw [hk]; exact h0, by rw [hk]; exact h1, by rw [hk]; exact h2, by rw [hk]; exact h3⟩
theorem ToksAt.rel {w w' : World} {A : Option Addr} {ts : List Tok} (h : ToksAt w A ts) (hr : Rel w w') : ToksAt w' A ts := h.below hr.2
/-- The cells from A on are these pairs of numbers. -/
def PairsAt (w : World) (A : Option Addr) (zs : List (Int × Int)) : Prop :=
  ∀ i (h : i < zs.length), ∃ (a : Addr), A = some a ∧ a.block < w.heap.size ∧ w.cell? (a.add (i * 2)) = some (.int .i64 zs[i].1) ∧ w.cell? (a.add (i * 2 + 1)) = some (.int .i64 zs[i].2)
theorem PairsAt.below {w w' : World} {A : Option Addr} {zs : List (Int × Int)} (h : PairsAt w A zs) (hb : Below w.heap.size w w') : PairsAt w' A zs := by
  intro i hi
  obtain ⟨a, e, hl, h0, h1⟩ := h i hi
  have hk : ∀ j, w'.cell? (a.add j) = w.cell? (a.add j) := fun j => hb.cell (p := a.add j) (by rw [block_add]; exact hl)
  exact ⟨a, e, by have := hb.size; omega, by rw [hk]; exact h0, by rw [hk]; exact h1⟩
theorem PairsAt.rel {w w' : World} {A : Option Addr} {zs : List (Int × Int)} (h : PairsAt w A zs) (hr : Rel w w') : PairsAt w' A zs := h.below hr.2
/-- Pairs of raw numbers as an argument. -/
def PairsIn (w : World) (A : Option Addr) (n : Nat) (zs : List (Int × Int)) : Prop := zs.length = n ∧ n ≤ 9223372036854775807 ∧ (∀ z ∈ zs, (-9223372036854775808 ≤ z.1 ∧ z.1 ≤ 9223372036854775807) ∧ (-9223372036854775808 ≤ z.2 ∧ z.2 ≤ 9223372036854775807)) ∧ PairsAt w A zs
theorem Bk.four {w : World} {g : Nat} {t : TypeId} {x y z u : Value} (h : Bk w g t #[x, y, z, u]) :
    (w.cell? ⟨g, 0, none⟩ = some x ∧ w.cell? ⟨g, 1, none⟩ = some y ∧ w.cell? ⟨g, 2, none⟩ = some z ∧ w.cell? ⟨g, 3, none⟩ = some u) ∧ (w.frozen? ⟨g, 0, none⟩ = false ∧ w.frozen? ⟨g, 1, none⟩ = false ∧ w.frozen? ⟨g, 2, none⟩ = false ∧ w.frozen? ⟨g, 3, none⟩ = false) :=
  ⟨⟨h.cell 0, h.cell 1, h.cell 2, h.cell 3⟩, ⟨h.frozen 0, h.frozen 1, h.frozen 2, h.frozen 3⟩⟩
theorem Bk.snd (w : World) (cs cs' : Array Value) (t t' : TypeId) : Bk ((w.alloc (.cells cs t)).alloc (.cells cs' t')) (w.heap.size + 1) t' cs' := by
  have h := Bk.new (w.alloc (.cells cs t)) t' cs'
  rw [World.size_alloc] at h
  exact h
end Go.Proofs.YtcckemhelockaaaGreatDoor

namespace Go.Proofs.YtcckemhelockaaaGreatDoor
open Go.Lib
set_option linter.unusedVariables false
set_option linter.unusedSimpArgs false
/-- An expression: kind, number, name, arguments. -/
inductive Ex where
  | mk (k n : Int) (nm : List UInt8) (l : List Ex)
def Ex.k : Ex → Int | .mk k _ _ _ => k
def Ex.n : Ex → Int | .mk _ n _ _ => n
def Ex.nm : Ex → List UInt8 | .mk _ _ nm _ => nm
def Ex.l : Ex → List Ex | .mk _ _ _ l => l
mutual
def size : Ex → Nat
  | .mk _ _ _ l => 1 + sizes l
def sizes : List Ex → Nat
  | [] => 0
  | x :: t => size x + sizes t
end
theorem size_mk (k n : Int) (nm : List UInt8) (l : List Ex) : size (.mk k n nm l) = 1 + sizes l := by rw [size]
theorem sizes_nil : sizes [] = 0 := by rw [sizes]
theorem sizes_cons (x : Ex) (t : List Ex) : sizes (x :: t) = size x + sizes t := by rw [sizes]
theorem size_mem {x : Ex} {l : List Ex} (h : x ∈ l) : size x ≤ sizes l := by
  induction l with
  | nil => cases h
  | cons y t ih =>
    rw [sizes_cons]
    rcases List.mem_cons.1 h with rfl | h
    · omega
    · have := ih h; omega
theorem size_pos (x : Ex) : 1 ≤ size x := by cases x; rw [size_mk]; omega
/-- What holds of an expression if it holds of all its arguments. -/
theorem ex_ind {P : Ex → Prop} (h : ∀ k n nm l, (∀ x ∈ l, P x) → P (.mk k n nm l)) : ∀ x, P x := by
  have : ∀ m x, size x ≤ m → P x := by
    intro m
    induction m with
    | zero => intro x hx; have := size_pos x; omega
    | succ m ih =>
      intro x hx
      cases x with
      | mk k n nm l =>
        rw [size_mk] at hx
        exact h k n nm l fun y hy => ih y (by have := size_mem hy; omega)
  exact fun x => this _ x (Nat.le_refl _)
/-- How many arguments a kind has; whether it is a condition; its greatest number; its word. -/
def argsN (k : Int) : Int := if k = 1 ∨ k = 2 ∨ k = 3 ∨ k = 4 ∨ k = 11 then 0 else if k = 5 ∨ k = 6 then 1 else if k = 7 ∨ k = 8 ∨ k = 9 ∨ k = 12 then 2 else if k = 10 then 3 else -1
def isCond (k : Int) : Bool := k == 11 || k == 12
def mostN (k : Int) : Int := if k = 4 ∨ k = 5 then 1000000000000 else if k = 6 then 100000 else if k = 11 then 1000 else 0
def wordK (k : Int) : List UInt8 :=
  if k = 1 then [108,111,119,101,115,116] else if k = 2 then [115,101,99,111,110,100] else if k = 3 then [102,114,111,109] else if k = 5 then [108,101,115,115] else if k = 6 then [99,117,116] else if k = 7 then [109,105,110] else if k = 8 then [109,97,120]
  else if k = 9 then [101,108,115,101] else if k = 10 then [105,102] else if k = 11 then [109,111,114,101] else if k = 12 then [97,98,111,118,101] else []
/-- May an expression be, but for how long its text is, within so many? -/
def fine : Nat → Ex → Bool
  | 0, _ => false
  | d + 1, x => decide (argsN x.k = (x.l.length : Int)) && decide (0 ≤ x.n ∧ x.n ≤ mostN x.k) && (decide (x.nm ≠ []) == decide (x.k = 3)) && (decide (x.k ≠ 3) || isName x.nm) &&
    (x.l.zipIdx).all fun p => (isCond p.1.k == (decide (x.k = 10) && decide (p.2 = 0))) && fine d p.1
def tailK (k n : Int) (nm : List UInt8) : List UInt8 := if k = 3 then nm else if k = 5 then [44, 32] ++ txt n else if k = 6 then [44, 32] ++ itoa n else if k = 11 then itoa n else []
mutual
def text : Ex → List UInt8
  | .mk k n nm l => if k = 4 then txt n else if k = 1 ∨ k = 2 then wordK k else wordK k ++ ([40] ++ (texts l ++ (tailK k n nm ++ [41])))
def texts : List Ex → List UInt8
  | [] => []
  | x :: t => text x ++ mores t
def mores : List Ex → List UInt8
  | [] => []
  | x :: t => [44, 32] ++ (text x ++ mores t)
end
theorem text_mk (k n : Int) (nm : List UInt8) (l : List Ex) : text (.mk k n nm l) = if k = 4 then txt n else if k = 1 ∨ k = 2 then wordK k else wordK k ++ ([40] ++ (texts l ++ (tailK k n nm ++ [41]))) := by rw [text]
theorem texts_nil : texts [] = [] := by rw [texts]
theorem texts_cons (x : Ex) (t : List Ex) : texts (x :: t) = text x ++ mores t := by rw [texts]
theorem mores_nil : mores [] = [] := by rw [mores]
theorem mores_cons (x : Ex) (t : List Ex) : mores (x :: t) = [44, 32] ++ (text x ++ mores t) := by rw [mores]
/-- May an expression be a strategy? -/
def rightX (x : Ex) : Bool := fine 32 x && !isCond x.k && decide (size x ≤ 2000) && decide ((text x).length ≤ 2000)
end Go.Proofs.YtcckemhelockaaaGreatDoor

namespace Go.Proofs.YtcckemhelockaaaGreatDoor
open Go.Lib
set_option linter.unusedVariables false
set_option linter.unusedSimpArgs false
theorem fine_eq (d : Nat) (k n : Int) (nm : List UInt8) (l : List Ex) : fine (d + 1) (.mk k n nm l) = (decide (argsN k = (l.length : Int)) && decide (0 ≤ n ∧ n ≤ mostN k) && (decide (nm ≠ []) == decide (k = 3)) && (decide (k ≠ 3) || isName nm) &&
    (l.zipIdx).all fun p => (isCond p.1.k == (decide (k = 10) && decide (p.2 = 0))) && fine d p.1) := rfl
/-- What may be, by itself: the shape of one expression, and of all in it. -/
theorem fine_parts {d : Nat} {k n : Int} {nm : List UInt8} {l : List Ex} (h : fine (d + 1) (.mk k n nm l) = true) :
    argsN k = (l.length : Int) ∧ (0 ≤ n ∧ n ≤ mostN k) ∧ (nm ≠ [] ↔ k = 3) ∧ (k = 3 → isName nm = true) ∧ ∀ i (hi : i < l.length), isCond l[i].k = (decide (k = 10) && decide (i = 0)) ∧ fine d l[i] = true := by
  rw [fine_eq] at h
  simp only [Bool.and_eq_true, decide_eq_true_eq, List.all_eq_true, beq_iff_eq, Bool.or_eq_true, decide_eq_decide] at h
  obtain ⟨⟨⟨⟨h1, h2⟩, h3⟩, h4⟩, h5⟩ := h
  refine ⟨h1, h2, h3, fun e => h4.resolve_left (by simpa using e), fun i hi => ?_⟩
  have := h5 (l[i], i) (by rw [List.mem_iff_getElem]; exact ⟨i, by simpa using hi, by simp⟩)
  exact this
theorem fine_mk {d : Nat} {k n : Int} {nm : List UInt8} {l : List Ex} (h1 : argsN k = (l.length : Int)) (h2 : 0 ≤ n ∧ n ≤ mostN k) (h3 : nm ≠ [] ↔ k = 3) (h4 : k = 3 → isName nm = true)
    (h5 : ∀ i (hi : i < l.length), isCond l[i].k = (decide (k = 10) && decide (i = 0)) ∧ fine d l[i] = true) : fine (d + 1) (.mk k n nm l) = true := by
  rw [fine_eq]
  simp only [Bool.and_eq_true, decide_eq_true_eq, List.all_eq_true, beq_iff_eq, Bool.or_eq_true, decide_eq_decide]
  refine ⟨⟨⟨⟨h1, h2⟩, h3⟩, ?_⟩, ?_⟩
  · by_cases e : k = 3
    · exact .inr (h4 e)
    · exact .inl e
  · rintro ⟨y, i⟩ hy
    obtain ⟨j, hj, e⟩ := List.mem_iff_getElem.1 hy
    simp at hj e
    obtain ⟨rfl, rfl⟩ := e
    exact h5 j hj
theorem fine_mem {d : Nat} {k n : Int} {nm : List UInt8} {l : List Ex} (h : fine (d + 1) (.mk k n nm l) = true) {y : Ex} (hy : y ∈ l) : fine d y = true := by
  obtain ⟨i, hi, rfl⟩ := List.mem_iff_getElem.1 hy
  exact ((fine_parts h).2.2.2.2 i hi).2
theorem name_parts {x : List UInt8} (h : isName x = true) : x ≠ [] ∧ x.all isPt = true ∧ x.length ≤ 12 ∧ ∃ c t, x = c :: t ∧ isL c = true := by
  simp only [isName, Bool.and_eq_true, decide_eq_true_eq] at h
  obtain ⟨⟨⟨⟨h1, h2⟩, h3⟩, _⟩, h4⟩ := h
  refine ⟨h1, ?_, h2, ?_⟩
  · rw [List.all_eq_true] at h4 ⊢
    intro c hc
    have := h4 c hc
    simp only [isPt, this, Bool.true_or]
  · cases x with
    | nil => exact absurd rfl h1
    | cons c t => exact ⟨c, t, rfl, by simpa using h3⟩
theorem txt_pos {n : Int} (h : 0 ≤ n) (h' : n ≤ 1000000000000) : txt n = pos n.toNat := by
  unfold txt; rw [rt_yes (by omega) (by omega), if_pos rfl, if_neg (by omega), show n.natAbs = n.toNat by omega]
theorem itoa_pos {n : Int} (h : 0 ≤ n) : itoa n = decDigits n.toNat := by unfold itoa; rw [if_neg (by omega)]
theorem txt_head {n : Int} (h : 0 ≤ n) (h' : n ≤ 1000000000000) : ∃ c t, txt n = c :: t ∧ isD c = true := by
  obtain ⟨c, t, e, hc⟩ := dd_cons (n.toNat / 100)
  rw [txt_pos h h']
  exact ⟨c, _, by unfold pos; rw [e]; rfl, hc⟩
/-- A kind's word. -/
theorem word_kind {k : Int} (h : 0 ≤ argsN k) (h4 : k ≠ 4) : Good (wordK k) 1 0 ∧ (∃ c t, wordK k = c :: t ∧ isL c = true) ∧ (wordK k).length ≤ 6 := by
  have hk : k = 1 ∨ k = 2 ∨ k = 3 ∨ k = 5 ∨ k = 6 ∨ k = 7 ∨ k = 8 ∨ k = 9 ∨ k = 10 ∨ k = 11 ∨ k = 12 := by
    unfold argsN at h
    split at h
    · omega
    · split at h
      · omega
      · split at h
        · omega
        · split at h <;> omega
  rcases hk with rfl | rfl | rfl | rfl | rfl | rfl | rfl | rfl | rfl | rfl | rfl
  all_goals exact ⟨good_word (by decide), ⟨_, _, rfl, by decide⟩, by decide⟩
theorem stops_cons {c : UInt8} {t : List UInt8} (h : isPt c = false) : stops (c :: t) = true := by simp [stops, h]
theorem mores_stops (l : List Ex) {r : List UInt8} (hr : stops r = true) : stops (mores l ++ r) = true := by
  cases l with
  | nil => rw [mores_nil]; exact hr
  | cons x t => rw [mores_cons]; exact stops_cons (c := 44) (by decide)
theorem most_le (k : Int) : mostN k ≤ 1000000000000 ∧ (k = 6 ∨ k = 11 → mostN k ≤ 100000) ∧ (k ≠ 4 → k ≠ 5 → k ≠ 6 → k ≠ 11 → mostN k = 0) := by
  unfold mostN
  refine ⟨?_, fun h => ?_, fun h1 h2 h3 h4 => ?_⟩
  · split
    · omega
    · split
      · omega
      · split <;> omega
  · rcases h with rfl | rfl <;> decide
  · rw [if_neg (by omega), if_neg h3, if_neg h4]
end Go.Proofs.YtcckemhelockaaaGreatDoor

namespace Go.Proofs.YtcckemhelockaaaGreatDoor
open Go.Lib
set_option linter.unusedVariables false
set_option linter.unusedSimpArgs false
/-- A text is scanned to at least n tokens, whatever stands behind it that is no part. -/
def Sc (a : List UInt8) (n : Nat) : Prop := ∀ p r, stops r = true → ∃ ts, lx p (a ++ r) = pre ts (lx (p + a.length) r) ∧ n ≤ ts.length
theorem Sc.append {a b : List UInt8} {n m : Nat} (ha : Sc a n) (hb : Sc b m) (hs : ∀ r, stops r = true → stops (b ++ r) = true) : Sc (a ++ b) (n + m) := by
  intro p r hr
  obtain ⟨ts, e, h⟩ := ha p (b ++ r) (hs r hr)
  obtain ⟨us, e', h'⟩ := hb (p + a.length) r hr
  refine ⟨ts ++ us, ?_, by rw [List.length_append]; omega⟩
  rw [List.append_assoc, e, e', pre_pre, List.length_append, Nat.add_assoc]
theorem Sc.nil : Sc [] 0 := fun p r _ => ⟨[], by rw [pre_nil]; rfl, Nat.zero_le _⟩
theorem Sc.comma {a : List UInt8} {n : Nat} (h : Sc a n) : Sc ([44, 32] ++ a) n := by
  intro p r hr
  obtain ⟨ts, e, h⟩ := h (p + 1 + 1) r hr
  refine ⟨(4, [44], 0, (p : Int)) :: ts, ?_, by simp; omega⟩
  have e1 := lx_sign p 44 (32 :: (a ++ r)) (by decide) (by decide)
  have e2 := lx_blank (p + 1) 32 (a ++ r) (by decide)
  show lx p (44 :: 32 :: (a ++ r)) = _
  rw [e1, e2, e, pre_pre]
  simp only [List.length_append, List.length_cons, List.length_nil, List.cons_append, List.nil_append]
  rw [show p + (a.length + 1 + 1) = p + 1 + 1 + a.length by omega]
theorem Sc.mores {l : List Ex} (h : ∀ x ∈ l, Sc (text x) (size x)) : Sc (mores l) (sizes l) := by
  induction l with
  | nil => rw [mores_nil, sizes_nil]; exact Sc.nil
  | cons x t ih =>
    rw [mores_cons, sizes_cons]
    exact Sc.comma (Sc.append (h x (List.mem_cons_self ..)) (ih fun y hy => h y (List.mem_cons_of_mem _ hy)) fun r hr => mores_stops t hr)
theorem Sc.texts {l : List Ex} (h : ∀ x ∈ l, Sc (text x) (size x)) : Sc (texts l) (sizes l) := by
  cases l with
  | nil => rw [texts_nil, sizes_nil]; exact Sc.nil
  | cons x t =>
    rw [texts_cons, sizes_cons]
    exact Sc.append (h x (List.mem_cons_self ..)) (Sc.mores fun y hy => h y (List.mem_cons_of_mem _ hy)) fun r hr => mores_stops t hr
theorem txt_len (n : Int) : (txt n).length ≤ 43 := by
  unfold txt
  split
  · rename_i h
    have hb := rt_iff.1 h
    have h1 : (pos n.natAbs).length ≤ 42 := by
      unfold pos
      have a1 := dd_len 14 (n.natAbs / 100) (by have : n.natAbs ≤ 1000000000000 := by omega
                                                have e : (10 : Nat) ^ 14 = 100000000000000 := by decide
                                                omega) (by omega)
      have a2 := dd_len 1 (n.natAbs / 10 % 10) (by omega) (by omega)
      have a3 := dd_len 1 (n.natAbs % 10) (by omega) (by omega)
      simp only [List.length_append, List.length_cons, List.length_nil]
      omega
    split
    · simp; omega
    · omega
  · simp
theorem itoa_len {n : Int} (h : 0 ≤ n) (h' : n ≤ 1000000000000) : (itoa n).length ≤ 14 := by
  rw [itoa_pos h]
  exact dd_len 14 n.toNat (by have e : (10 : Nat) ^ 14 = 100000000000000 := by decide
                              omega) (by omega)
theorem mores_len {l : List Ex} (h : ∀ x ∈ l, (text x).length ≤ 60 * size x) : (mores l).length ≤ 60 * sizes l + 2 * l.length := by
  induction l with
  | nil => rw [mores_nil]; simp
  | cons x t ih =>
    have h1 := h x (List.mem_cons_self ..)
    have h2 := ih fun y hy => h y (List.mem_cons_of_mem _ hy)
    rw [mores_cons, sizes_cons]
    simp only [List.length_append, List.length_cons, List.length_nil]
    omega
theorem texts_len {l : List Ex} (h : ∀ x ∈ l, (text x).length ≤ 60 * size x) : (texts l).length ≤ 60 * sizes l + 2 * l.length := by
  cases l with
  | nil => rw [texts_nil]; simp
  | cons x t =>
    have h1 := h x (List.mem_cons_self ..)
    have h2 := mores_len fun y hy => h y (List.mem_cons_of_mem _ hy)
    rw [texts_cons, sizes_cons]
    simp only [List.length_append, List.length_cons]
    omega
theorem args_le (k : Int) : argsN k ≤ 3 := by
  unfold argsN
  split
  · omega
  · split
    · omega
    · split
      · omega
      · split <;> omega
theorem tail_len {k n : Int} {nm : List UInt8} (hn : 0 ≤ n ∧ n ≤ mostN k) (hm : k = 3 → isName nm = true) : (tailK k n nm).length ≤ 45 := by
  obtain ⟨b1, b2, b3⟩ := most_le k
  unfold tailK
  split
  · rename_i e; have := (name_parts (hm e)).2.2.1; omega
  · split
    · have := txt_len n; simp; omega
    · split
      · have := itoa_len hn.1 (by omega : n ≤ 1000000000000); simp; omega
      · split
        · have := itoa_len hn.1 (by omega : n ≤ 1000000000000); omega
        · simp
theorem text_len : ∀ (x : Ex) (d : Nat), fine d x = true → (text x).length ≤ 60 * size x := ex_ind fun k n nm l ih d hx => by
  obtain ⟨d, rfl⟩ : ∃ e, d = e + 1 := by
    cases d with
    | zero => cases hx
    | succ d => exact ⟨d, rfl⟩
  obtain ⟨a1, a2, a3, a4, a5⟩ := fine_parts hx
  have h1 := texts_len (l := l) fun y hy => ih y hy d (fine_mem hx hy)
  have h2 := tail_len a2 a4
  have h3 := args_le k
  have h4 := txt_len n
  rw [text_mk, size_mk]
  split
  · omega
  · rename_i k4
    obtain ⟨_, _, g⟩ := word_kind (by omega : 0 ≤ argsN k) k4
    split
    · omega
    · simp only [List.length_append, List.length_cons, List.length_nil]
      omega
theorem text_more : ∀ (x : Ex) (d : Nat), fine d x = true → size x ≤ (text x).length := ex_ind fun k n nm l ih d hx => by
  obtain ⟨d, rfl⟩ : ∃ e, d = e + 1 := by
    cases d with
    | zero => cases hx
    | succ d => exact ⟨d, rfl⟩
  obtain ⟨a1, a2, a3, a4, a5⟩ := fine_parts hx
  have lnil : argsN k = 0 → l = [] := fun e2 => List.length_eq_zero_iff.1 (by omega)
  have hm : ∀ l : List Ex, (∀ x ∈ l, size x ≤ (text x).length) → sizes l ≤ (mores l).length := by
    intro l
    induction l with
    | nil => intro _; rw [sizes_nil]; omega
    | cons x t ih2 =>
      intro h
      have h1 := h x (List.mem_cons_self ..)
      have h2 := ih2 fun y hy => h y (List.mem_cons_of_mem _ hy)
      rw [mores_cons, sizes_cons]
      simp only [List.length_append, List.length_cons, List.length_nil]
      omega
  have ht : sizes l ≤ (texts l).length := by
    cases l with
    | nil => rw [sizes_nil]; omega
    | cons x t =>
      have h1 := ih x (List.mem_cons_self ..) d (fine_mem hx (List.mem_cons_self ..))
      have h2 := hm t fun y hy => ih y (List.mem_cons_of_mem _ hy) d (fine_mem hx (List.mem_cons_of_mem _ hy))
      rw [texts_cons, sizes_cons]
      simp only [List.length_append]
      omega
  have m1 := most_le k
  rw [text_mk, size_mk]
  split
  · rename_i k4
    subst k4
    rw [lnil (by decide), sizes_nil]
    obtain ⟨c, t, e, _⟩ := txt_head a2.1 (by omega : n ≤ 1000000000000)
    rw [e]; simp
  · rename_i k4
    obtain ⟨_, ⟨c, t, e, _⟩, _⟩ := word_kind (by omega : 0 ≤ argsN k) k4
    split
    · rename_i k12
      rw [lnil (by rcases k12 with rfl | rfl <;> decide), sizes_nil, e]; simp
    · rw [e]
      simp only [List.length_append, List.length_cons, List.length_nil]
      omega
end Go.Proofs.YtcckemhelockaaaGreatDoor

namespace Go.Proofs.YtcckemhelockaaaGreatDoor
open Go.RowKit Go.Lib
set_option linter.unusedVariables false
set_option linter.unusedSimpArgs false
/-- One number of the raw ones, below n; 0 behind the last one. -/
def nx (n : Int) : List Int → Int × List Int
  | [] => (0, [])
  | c :: t => (pk c n, t)
theorem seller_name (u : Int) (h0 : 0 ≤ u) (h1 : u < 60) : isName (sellerL u) = true := by
  rw [seller_eq u h0 h1]
  have : ∀ i : Fin 60, isName ((theNames.getD (i.val % 6) []) ++ [UInt8.ofNat (48 + i.val / 6)]) = true := by decide
  exact this ⟨u.toNat, by omega⟩
end Go.Proofs.YtcckemhelockaaaGreatDoor
