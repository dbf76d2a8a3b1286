/- Plain mathematics of layer 13: books and lists of sources. No program in this text; The document's own answers of layer 13: ticks, a seller's place, what is not too old, what is dropped; The document's own answers of layer 13: what is not too old, what is dropped, what is offered; A copy onto nothing (append(nil, xs...)), whatever comes in; a row's element rewritten. -/
import Derived.Test.YtfplhpkolcgpiaaZL
import Derived.Test.YtfplhpkolcgpiaaZ00
namespace Go.Proofs.Ytfplhpkolcgpiaa
open Go.Lib
set_option linter.unusedVariables false
set_option linter.unusedSimpArgs false
theorem drop_sub (b : List Sl) (s : List UInt8) : (dropB b s).Sublist b := by
  induction b with
  | nil => exact List.Sublist.refl _
  | cons z r ih =>
    rw [dropB]
    split
    · exact List.sublist_cons_self ..
    · exact ih.cons_cons _
theorem one_sub {b c : List Sl} (h : oneB b) (hs : c.Sublist b) : oneB c := h.sublist (hs.map _)
theorem book_sub {b c : List Sl} (h : bookOk b) (hs : c.Sublist b) : bookOk c := ⟨one_sub h.1 hs, Nat.le_trans hs.length_le h.2.1, fun x hx => h.2.2 x (hs.subset hx)⟩
theorem book_drop {b : List Sl} (h : bookOk b) (s : List UInt8) : bookOk (dropB b s) := book_sub h (drop_sub b s)
theorem book_exp {b : List Sl} (h : bookOk b) (now most : Int) : bookOk (expB b now most) := book_sub h List.filter_sublist
end Go.Proofs.Ytfplhpkolcgpiaa

namespace Go.Proofs.Ytfplhpkolcgpiaa
open Go.RowKit Go.Lib
set_option linter.unusedVariables false
set_option linter.unusedSimpArgs false
set_option maxHeartbeats 400000 in
theorem rtick_any (n : Int) (w : World) : Calls Try.prog 58 #[.int .i64 n] w fun e w' => e = .returned (.int .i64 (tickF n)) ∧ w = w' := by
  unfold tickF
  by_cases h : n < 0
  · rw [if_pos h]
    have h1 : decide (n < 0) = true := decide_eq_true h
    go_enter Try.func58, Try.ntmps58
    go_wp2_with (fail)
    go_ret
    exact ⟨rfl, rfl⟩
  · rw [if_neg h]
    have h0 : 0 ≤ n := by omega
    by_cases h' : 1099511627776 < n
    · rw [if_pos h']
      have h1 : decide (1099511627776 < n) = true := decide_eq_true h'
      go_enter Try.func58, Try.ntmps58
      go_wp2_with (fail)
      go_ret
      exact ⟨rfl, rfl⟩
    · rw [if_neg h']
      have h2 : n ≤ 1099511627776 := by omega
      go_enter Try.func58, Try.ntmps58
      go_wp2_with (fail)
      go_ret
      exact ⟨rfl, rfl⟩
theorem rtick_as (n m : Int) (h : Hid (tickF n = m)) (w : World) : Calls Try.prog 58 #[.int .i64 n] w fun e w' => e = .returned (.int .i64 m) ∧ w = w' := by
  rw [← h.out]; exact rtick_any n w
set_option maxHeartbeats 400000 in
theorem rlater_any (t m : Int) (w : World) : Calls Try.prog 39 #[.int .i64 t, .int .i64 m] w fun e w' => e = .returned (.int .i64 (laterF t m)) ∧ w = w' := by
  have ht := tick_bd t
  have hm := tick_bd m
  unfold laterF
  obtain ⟨a, ha⟩ : ∃ a, tickF t = a := ⟨_, rfl⟩
  obtain ⟨b, hb⟩ : ∃ b, tickF m = b := ⟨_, rfl⟩
  rw [ha] at ht ⊢
  rw [hb] at hm ⊢
  obtain ⟨c, hc⟩ : ∃ c, tickF (a + b) = c := ⟨_, rfl⟩
  rw [hc]
  have HA := Lib.hid ha
  have HB := Lib.hid hb
  have HC := Lib.hid hc
  obtain ⟨a0, a1⟩ := ht
  obtain ⟨b0, b1⟩ := hm
  clear ha hb hc
  go_enter Try.func39, Try.ntmps39
  go_wp2_with (first
    | (go_at_call 58; (with_reducible refine (rtick_as t a HA _).mono ?_); rintro e w' ⟨rfl, rfl⟩)
    | (go_at_call 58; (with_reducible refine (rtick_as m b HB _).mono ?_); rintro e w' ⟨rfl, rfl⟩)
    | (go_at_call 58; (with_reducible refine (rtick_as (a + b) c HC _).mono ?_); rintro e w' ⟨rfl, rfl⟩))
  go_ret
  exact ⟨rfl, rfl⟩
def AtPost (b : List Sl) (s : List UInt8) (w : World) (e : Ending) (w' : World) : Prop := ∃ r : Int, e = .returned (.int .i64 r) ∧ AtIs b s r ∧ w = w'
set_option maxRecDepth 100000 in
set_option maxHeartbeats 4000000 in
theorem rat_any (b : List Sl) (s : List UInt8) (A : Option Addr) (c : Nat) (w : World) (hr : Rel w w) (hb : RowAt cl3 3 w A b) (hl : b.length ≤ 9223372036854775807) :
    Calls Try.prog 35 #[.slice A b.length c, .string (B s)] w (AtPost b s w) := by
  have HB := Lib.hid hb
  have HR := Lib.hid hr
  clear hb hr
  go_enter Try.func35, Try.ntmps35
  go_wp2_with (fail)
  go_loopw [5] (fun i wr => ∃ j : Nat, j ≤ b.length ∧ i = .int .i64 (j : Int) ∧ Hid (∀ k (hk : k < b.length), k < j → b[k].1 ≠ s) ∧ w = wr) (fun i _ => b.length - (RowKit.intOf i).toNat)
  case atStart => exact ⟨0, by omega, rfl, Lib.hid (fun k hk h => absurd h (by omega)), by first | exact rfl | exact trivial⟩
  case round =>
    obtain ⟨j, hj, rfl, HJ, hw⟩ := hrel
    subst hw
    by_cases hlt : j < b.length
    · obtain ⟨g, off, x, rfl, hgl, hx, k0, _, _⟩ := slot_at HB.out HR.out j hlt
      have HX := Lib.hid hx
      have hi : (j : Int) < (b.length : Int) := by omega
      clear hx hgl
      have hbl := bl_is x.1 s
      obtain ⟨X, hX⟩ : ∃ X, B x.1 = X := ⟨_, rfl⟩
      obtain ⟨S, hS⟩ : ∃ S, B s = S := ⟨_, rfl⟩
      rw [hX] at k0
      rw [hX, hS] at hbl
      rw [hS]
      by_cases he : x.1 = s
      · rw [decide_eq_true he] at hbl
        have HE := Lib.hid he
        clear he hX hS
        go_wp2_with (fail)
        go_ret
        exact ⟨_, rfl, .inr ⟨j, rfl, hlt, by rw [HX.out]; exact HE.out, HJ.out⟩, rfl⟩
      · rw [decide_eq_false he] at hbl
        have HE := Lib.hid he
        clear he hX hS
        go_wp2_with (fail)
        go_roundw
        case rel => exact ⟨j + 1, by omega, by go_num, Lib.hid (fun k hk h => by
          rcases Nat.lt_or_ge k j with h2 | h2
          · exact HJ.out k hk h2
          · obtain rfl : k = j := by omega
            rw [HX.out]; exact HE.out), by first | exact rfl | exact trivial⟩
        case measure => simp [RowKit.intOf]; omega
    · obtain rfl : j = b.length := by omega
      go_wp2_with (fail)
      go_ret
      refine ⟨_, rfl, .inl ⟨rfl, ?_⟩, rfl⟩
      rw [Bool.eq_false_iff]
      intro ha
      obtain ⟨x, hx, e⟩ := hasB_iff.1 ha
      obtain ⟨i, hi, rfl⟩ := List.getElem_of_mem hx
      exact HJ.out i hi hi e
end Go.Proofs.Ytfplhpkolcgpiaa

namespace Go.Proofs.Ytfplhpkolcgpiaa
open Go.RowKit Go.Lib
set_option linter.unusedVariables false
set_option linter.unusedSimpArgs false
set_option maxRecDepth 100000 in
set_option maxHeartbeats 8000000 in
theorem rexpire_any (b : List Sl) (A : Option Addr) (c : Nat) (now most : Int) (w : World) (hr : Rel w w) (hb : SlArg w A c b) :
    Calls Try.prog 18 #[.slice A b.length c, .int .i64 now, .int .i64 most] w fun e w' => ∃ A2 c2, e = .returned (.slice A2 (expB b now most).length c2) ∧ BkOwn w' w.heap.size (.slice A2 (expB b now most).length c2) (expB b now most) ∧ Rel w w' := by
  obtain ⟨_, _, hlen, _, hat⟩ := hb
  have HB := Lib.hid hat
  have HR := Lib.hid hr
  obtain ⟨i0, hi0, hz0, hz1, hz2⟩ := info_parts slot_info
  clear hat hr
  go_enter Try.func18, Try.ntmps18
  go_wp2_with (fail)
  go_loopw [7, 8] (fun o i wr => ∃ (j L : Nat) (out : List Sl) (A2 : Option Addr) (c2 : Nat), o = .slice A2 L c2 ∧ j ≤ b.length ∧ L ≤ j ∧ i = .int .i64 (j : Int) ∧ Hid (out.length = L) ∧ Hid (out = expB (b.take j) now most) ∧ Hid (BkOwn wr w.heap.size (.slice A2 L c2) out) ∧ Hid (Rel w wr)) (fun _ i _ => b.length - (RowKit.intOf i).toNat)
  case atStart => exact ⟨0, 0, [], none, 0, rfl, by omega, Nat.le_refl _, rfl, Lib.hid rfl, Lib.hid rfl, Lib.hid (RowOwn.nil _ _ _), Lib.hid HR.out⟩
  case round =>
    obtain ⟨j, L, out, A2, c2, rfl, hj, hL, rfl, HL, HE, HO, HRw⟩ := hrel
    by_cases hlt : j < b.length
    · have HN := Lib.hid (exp_next hlt now most)
      obtain ⟨g, off, x, rfl, hgl, hx, k0, k1, k2⟩ := slot_at HB.out HRw.out j hlt
      have HX := Lib.hid hx
      have hi : (j : Int) < (b.length : Int) := by omega
      obtain ⟨xs, hxs⟩ : ∃ s, B x.1 = s := ⟨_, rfl⟩
      obtain ⟨xp, hxp⟩ : ∃ s, x.2.1 = s := ⟨_, rfl⟩
      obtain ⟨xt, hxt⟩ : ∃ s, x.2.2 = s := ⟨_, rfl⟩
      rw [hxs] at k0
      rw [hxp] at k1
      rw [hxt] at k2
      have HC := Lib.hid (show cl3 x = [.string xs, .int .i64 xp, .int .i64 xt] from by unfold cl3; rw [hxs, hxp, hxt])
      have HT := Lib.hid hxt
      clear hx hgl hxs hxp hxt
      obtain ⟨lt, hlt2⟩ : ∃ l, laterF xt most = l := ⟨_, rfl⟩
      have HLt := Lib.hid (fun (w1 : World) => rlater_any xt most w1)
      rw [hlt2] at HLt
      have HN := Lib.hid (show expB (b.take (j + 1)) now most = expB (b.take j) now most ++ (if now ≤ lt then [x] else []) from by rw [HN.out, HX.out, HT.out, hlt2])
      clear hlt2
      by_cases hn : now ≤ lt
      · have hb1 : decide (now ≤ lt) = true := decide_eq_true hn
        have HN := Lib.hid (show expB (b.take (j + 1)) now most = out ++ [x] from by rw [HN.out, if_pos hn, HE.out])
        have HNw := Lib.hid (show ∀ (q : Nat) (u : Value), ([.string xs, .int .i64 xp, .int .i64 xt] : List Value)[q]? = some u → (wr.alloc (.cells #[.string xs, .int .i64 xp, .int .i64 xt] 50)).cell? ((⟨wr.heap.size, 0, none⟩ : Addr).add q) = some u from World.news_of_block (Bk.new wr 50 #[.string xs, .int .i64 xp, .int .i64 xt]))
        have HRow := Lib.hid (show (wr.alloc (.cells #[.string xs, .int .i64 xp, .int .i64 xt] 50)).ownsRow w.heap.size 50 3 (.slice A2 L c2) L (out.flatMap cl3) from by have := HO.out.row; rw [HL.out] at this; exact World.ownsRow.alloc this _)
        have hsz : w.heap.size ≤ (wr.alloc (.cells #[.string xs, .int .i64 xp, .int .i64 xt] 50)).heap.size := by rw [World.size_alloc]; have := HRw.out.size; omega
        have HOne := Lib.hid (show ∀ u ∈ ([.string xs, .int .i64 xp, .int .i64 xt] : List Value), u.oneCell' = true from by intro u hu; simp at hu; rcases hu with rfl | rfl | rfl <;> rfl)
        go_wp2_with (first
          | (go_at_call 39; (with_reducible refine (HLt.out _).mono ?_); rintro e w' ⟨rfl, rfl⟩)
          | (at_builtin; (refine wpList_append_lies _ rfl _ _ 23 rfl w.heap.size 50 i0 (.agg #[.string ⟨#[]⟩, .int .i64 0, .int .i64 0]) 3 32 Try.underlying23 hi0 hz0 hz1 hz2 rfl (by decide) (.slice A2 L c2) L (out.flatMap cl3) rfl HRow.out ⟨wr.heap.size, 0, none⟩ 1 1 [.string xs, .int .i64 xp, .int .i64 xt] rfl rfl HNw.out HOne.out (by decide) (by unfold maxLen; omega) (by omega) hsz _ rfl ?_); intro g2 c3 w2 own2 gr2 at2 lt2; have HO2 := Lib.hid own2; have HG2 := Lib.hid gr2; clear own2 gr2))
        go_roundw
        case rel => exact ⟨j + 1, L + 1, out ++ [x], _, c3, rfl, by omega, by omega, by go_num, Lib.hid (by rw [List.length_append, HL.out]; rfl), Lib.hid HN.out.symm, Lib.hid (RowOwn.more HL.out (by rw [HC.out]; exact HO2.out)), Lib.hid ((HRw.out.alloc _).grown HG2.out (fun q hq => (HRow.out.lt q hq).1))⟩
        case measure => simp [RowKit.intOf]; omega
      · have hb1 : decide (now ≤ lt) = false := decide_eq_false hn
        have HN := Lib.hid (show expB (b.take (j + 1)) now most = out from by rw [HN.out, if_neg hn, List.append_nil, HE.out])
        go_wp2_with (go_at_call 39; (with_reducible refine (HLt.out _).mono ?_); rintro e w' ⟨rfl, rfl⟩)
        go_roundw
        case rel => exact ⟨j + 1, L, out, A2, c2, rfl, by omega, by omega, by go_num, HL, Lib.hid HN.out.symm, HO, HRw⟩
        case measure => simp [RowKit.intOf]; omega
    · obtain rfl : j = b.length := by omega
      have hE : out = expB b now most := by rw [HE.out, List.take_length]
      have hLL : (expB b now most).length = L := by rw [← hE]; exact HL.out
      have HE2 := Lib.hid hE
      have HL2 := Lib.hid hLL
      clear hE hLL
      go_wp2_with (fail)
      go_ret
      exact ⟨A2, c2, by (rw [HL2.out]; try rfl), by rw [HL2.out, ← HE2.out]; exact HO.out, HRw.out⟩
/-- All but one place. -/
def butB (b : List Sl) (k : Int) (j : Nat) : List Sl := ((b.take j).zipIdx.filter fun y => decide ((y.2 : Int) ≠ k)).map (·.1)
theorem but_next {b : List Sl} {j : Nat} (h : j < b.length) (k : Int) : butB b k (j + 1) = butB b k j ++ (if (j : Int) ≠ k then [b[j]] else []) := by
  unfold butB
  rw [take_next h, List.zipIdx_append, List.filter_append, List.map_append]
  congr 1
  rw [List.length_take, show min j b.length = j by omega, Nat.zero_add]
  by_cases e : (j : Int) = k
  · simp [e]
  · simp [e]
theorem but_none (b : List Sl) : butB b (-1) b.length = b := by
  unfold butB
  rw [List.take_length]
  have : (b.zipIdx.filter fun y => decide ((y.2 : Int) ≠ -1)) = b.zipIdx := List.filter_eq_self.2 fun y _ => decide_eq_true (by omega)
  rw [this]
  simp
theorem but_all (b : List Sl) (i : Nat) (hi : i < b.length) : ∀ j, j ≤ b.length → butB b (i : Int) j = if j ≤ i then b.take j else b.take i ++ (b.take j).drop (i + 1) := by
  intro j
  induction j with
  | zero => intro _; rw [if_pos (Nat.zero_le _)]; rfl
  | succ j ih =>
    intro hj
    rw [but_next (by omega), ih (by omega)]
    by_cases h1 : j < i
    · rw [if_pos (by omega), if_pos (by omega), if_pos (by omega), take_next (by omega)]
    · by_cases h2 : j = i
      · subst h2
        rw [if_pos (Nat.le_refl _), if_neg (by omega), if_neg (by omega), List.append_nil]
        rw [List.drop_of_length_le (by rw [List.length_take]; omega), List.append_nil]
      · rw [if_neg (by omega), if_pos (by omega), if_neg (by omega), take_next (b := b) (j := j) (by omega), List.drop_append_of_le_length (by rw [List.length_take]; omega), List.append_assoc]
/-- What is left without a place is what is left without that seller. -/
theorem but_drop {b : List Sl} {s : List UInt8} {r : Int} (h : AtIs b s r) : butB b r b.length = dropB b s := by
  rcases h with ⟨rfl, hn⟩ | ⟨i, rfl, hi, he, hk⟩
  · rw [but_none, drop_none hn]
  · rw [but_all b i hi b.length (Nat.le_refl _), if_neg (by omega), List.take_length, hasB_take hi he hk]
set_option maxRecDepth 100000 in
set_option maxHeartbeats 8000000 in
theorem rdrop_any (b : List Sl) (A : Option Addr) (c : Nat) (s : List UInt8) (w : World) (hr : Rel w w) (hb : SlArg w A c b) :
    Calls Try.prog 20 #[.slice A b.length c, .string (B s)] w fun e w' => ∃ A2 c2, e = .returned (.slice A2 (dropB b s).length c2) ∧ BkOwn w' w.heap.size (.slice A2 (dropB b s).length c2) (dropB b s) ∧ Rel w w' := by
  obtain ⟨_, _, hlen, _, hat⟩ := hb
  have HB := Lib.hid hat
  have HR := Lib.hid hr
  have HAt := Lib.hid (rat_any b s A c w hr hat (by omega))
  obtain ⟨i0, hi0, hz0, hz1, hz2⟩ := info_parts slot_info
  clear hat hr
  go_enter Try.func20, Try.ntmps20
  go_upto_region 3 with (go_at_call 35; (with_reducible refine HAt.out.mono ?_); rintro e w' ⟨r, rfl, hrr, rfl⟩)
  have HI := Lib.hid (but_drop hrr)
  clear hrr
  go_wp2_with (fail)
  go_loopw [5, 7] (fun o i wr => ∃ (j L : Nat) (out : List Sl) (A2 : Option Addr) (c2 : Nat), o = .slice A2 L c2 ∧ j ≤ b.length ∧ L ≤ j ∧ i = .int .i64 (j : Int) ∧ Hid (out.length = L) ∧ Hid (out = butB b r j) ∧ Hid (BkOwn wr w.heap.size (.slice A2 L c2) out) ∧ Hid (Rel w wr)) (fun _ i _ => b.length - (RowKit.intOf i).toNat)
  case atStart => exact ⟨0, 0, [], none, 0, rfl, by omega, Nat.le_refl _, rfl, Lib.hid rfl, Lib.hid rfl, Lib.hid (RowOwn.nil _ _ _), Lib.hid HR.out⟩
  case round =>
    obtain ⟨j, L, out, A2, c2, rfl, hj, hL, rfl, HL, HE, HO, HRw⟩ := hrel
    by_cases hlt : j < b.length
    · have HN := Lib.hid (but_next hlt r)
      obtain ⟨g, off, x, rfl, hgl, hx, k0, k1, k2⟩ := slot_at HB.out HRw.out j hlt
      have HX := Lib.hid hx
      have hi : (j : Int) < (b.length : Int) := by omega
      obtain ⟨xs, hxs⟩ : ∃ s, B x.1 = s := ⟨_, rfl⟩
      obtain ⟨xp, hxp⟩ : ∃ s, x.2.1 = s := ⟨_, rfl⟩
      obtain ⟨xt, hxt⟩ : ∃ s, x.2.2 = s := ⟨_, rfl⟩
      rw [hxs] at k0
      rw [hxp] at k1
      rw [hxt] at k2
      have HC := Lib.hid (show cl3 x = [.string xs, .int .i64 xp, .int .i64 xt] from by unfold cl3; rw [hxs, hxp, hxt])
      have HT := Lib.hid hxt
      clear hx hgl hxs hxp hxt
      by_cases hn : (j : Int) = r
      · have hb1 : ((j : Int) != r) = false := by simpa using hn
        have HN := Lib.hid (show butB b r (j + 1) = out from by rw [HN.out, if_neg (by simpa using hn), List.append_nil, HE.out])
        clear hn
        go_wp2_with (fail)
        go_roundw
        case rel => exact ⟨j + 1, L, out, A2, c2, rfl, by omega, by omega, by go_num, HL, Lib.hid HN.out.symm, HO, HRw⟩
        case measure => simp [RowKit.intOf]; omega
      · have hb1 : ((j : Int) != r) = true := by simpa using hn
        have HN := Lib.hid (show butB b r (j + 1) = out ++ [x] from by rw [HN.out, if_pos hn, HX.out, HE.out])
        clear hn
        have HNw := Lib.hid (show ∀ (q : Nat) (u : Value), ([.string xs, .int .i64 xp, .int .i64 xt] : List Value)[q]? = some u → (wr.alloc (.cells #[.string xs, .int .i64 xp, .int .i64 xt] 50)).cell? ((⟨wr.heap.size, 0, none⟩ : Addr).add q) = some u from World.news_of_block (Bk.new wr 50 #[.string xs, .int .i64 xp, .int .i64 xt]))
        have HRow := Lib.hid (show (wr.alloc (.cells #[.string xs, .int .i64 xp, .int .i64 xt] 50)).ownsRow w.heap.size 50 3 (.slice A2 L c2) L (out.flatMap cl3) from by have := HO.out.row; rw [HL.out] at this; exact World.ownsRow.alloc this _)
        have hsz : w.heap.size ≤ (wr.alloc (.cells #[.string xs, .int .i64 xp, .int .i64 xt] 50)).heap.size := by rw [World.size_alloc]; have := HRw.out.size; omega
        have HOne := Lib.hid (show ∀ u ∈ ([.string xs, .int .i64 xp, .int .i64 xt] : List Value), u.oneCell' = true from by intro u hu; simp at hu; rcases hu with rfl | rfl | rfl <;> rfl)
        go_wp2_with (at_builtin; (refine wpList_append_lies _ rfl _ _ 23 rfl w.heap.size 50 i0 (.agg #[.string ⟨#[]⟩, .int .i64 0, .int .i64 0]) 3 32 Try.underlying23 hi0 hz0 hz1 hz2 rfl (by decide) (.slice A2 L c2) L (out.flatMap cl3) rfl HRow.out ⟨wr.heap.size, 0, none⟩ 1 1 [.string xs, .int .i64 xp, .int .i64 xt] rfl rfl HNw.out HOne.out (by decide) (by unfold maxLen; omega) (by omega) hsz _ rfl ?_); intro g2 c3 w2 own2 gr2 at2 lt2; have HO2 := Lib.hid own2; have HG2 := Lib.hid gr2; clear own2 gr2)
        go_roundw
        case rel => exact ⟨j + 1, L + 1, out ++ [x], _, c3, rfl, by omega, by omega, by go_num, Lib.hid (by rw [List.length_append, HL.out]; rfl), Lib.hid HN.out.symm, Lib.hid (RowOwn.more HL.out (by rw [HC.out]; exact HO2.out)), Lib.hid ((HRw.out.alloc _).grown HG2.out (fun q hq => (HRow.out.lt q hq).1))⟩
        case measure => simp [RowKit.intOf]; omega
    · obtain rfl : j = b.length := by omega
      have hE : out = dropB b s := by rw [HE.out, HI.out]
      have hLL : (dropB b s).length = L := by rw [← hE]; exact HL.out
      have HE2 := Lib.hid hE
      have HL2 := Lib.hid hLL
      clear hE hLL
      go_wp2_with (fail)
      go_ret
      exact ⟨A2, c2, by (rw [HL2.out]; try rfl), by rw [HL2.out, ← HE2.out]; exact HO.out, HRw.out⟩
end Go.Proofs.Ytfplhpkolcgpiaa

namespace Go.Proofs.Ytfplhpkolcgpiaa
open Go.RowKit Go.Lib
set_option linter.unusedVariables false
set_option linter.unusedSimpArgs false
theorem row_none {w : World} {b : List Sl} (h : RowAt cl3 3 w none b) : b = [] := by
  cases b with
  | nil => rfl
  | cons x r => obtain ⟨g, off, e, _⟩ := h 0 (by simp); cases e
theorem news_at {w : World} {g off : Nat} {b : List Sl} (h : RowAt cl3 3 w (some ⟨g, off, none⟩) b) : ∀ (j : Nat) (u : Value), (b.flatMap cl3)[j]? = some u → w.cell? ((⟨g, off, none⟩ : Addr).add j) = some u := fun j u hu => by
  have hj : j < b.length * 3 := by
    rcases Nat.lt_or_ge j (b.length * 3) with h' | h'
    · exact h'
    · rw [List.getElem?_eq_none (by rw [flat_len cl3_len]; exact h')] at hu; cases hu
  have e : j = j / 3 * 3 + j % 3 := by omega
  obtain ⟨g', off', e1, _, hc⟩ := h (j / 3) (by omega)
  injection e1 with e1
  injection e1 with e2 e3
  subst e2; subst e3
  rw [add_any, e, ← Nat.add_assoc, hc (j % 3) (by omega)]
  rw [e, flat_at cl3_len b (j / 3) (by omega) (j % 3) (by omega)] at hu
  exact hu
theorem wpList_copied {w : World} {ops : Array Oper} {rest : List Oper} {o : Oper} {a : Act} {Q : Exit → Act → World → Prop} (hgd : o.guard = none) (s x : Operand)
    (ho : o.op = .call { callee := .builtin .append, args := #[s, x], argTypes := #[23, 23] }) (A : Option Addr) (c : Nat) (b : List Sl) (hs : a.eval s = .slice none 0 0) (hx : a.eval x = .slice A b.length c)
    (hat : RowAt cl3 3 w A b) (hA : A = none → c = 0) (hl : b.length ≤ 4398046511104)
    (h : ∀ v' w', w'.ownsRow w.heap.size 50 3 v' b.length (b.flatMap cl3) → w.grownBy w' none → wpList Try.prog ops Q rest (a.put o.dst v') w') : wpList Try.prog ops Q (o :: rest) a w := by
  obtain ⟨i0, hi0, hz0, hz1, hz2⟩ := info_parts slot_info
  refine wpList_plain hgd fun K hK => ?_
  cases A with
  | none =>
    obtain rfl := row_none hat
    obtain rfl := hA rfl
    have hrun := run_append_owned_none (P := Try.prog) (w := w) w.heap.size 23 o.type 50 i0 3 Try.underlying23 hi0 (.slice none 0 0) 0 [] (World.ownsRow_nil w _ _ _)
    have hx' : a.eval x = .slice none 0 0 := hx
    unfold Oper.wp
    simp [execOp, ho, resolve, invoke, builtin, hs, hx', hrun, Result.andThen]
    exact hK _ _ (h _ _ (World.ownsRow_nil w _ _ _) ⟨rfl, rfl, rfl, Nat.le_refl _, fun _ _ _ => rfl⟩)
  | some p =>
    have hnews : ∀ (j : Nat) (u : Value), (b.flatMap cl3)[j]? = some u → w.cell? (p.add j) = some u := by
      by_cases hb : b = []
      · intro j u hu; rw [hb] at hu; simp at hu
      · obtain ⟨g, off, e, _⟩ := hat 0 (List.length_pos_iff.2 hb)
        injection e with e
        subst e
        exact news_at hat
    obtain ⟨v', w', hrun, r1, r2, _⟩ := run_append_own (P := Try.prog) w w.heap.size 23 o.type 50 i0 (.agg #[.string ⟨#[]⟩, .int .i64 0, .int .i64 0]) 3 32 Try.underlying23 hi0 hz0 hz1 hz2 rfl (by decide) (.slice none 0 0) 0 [] (World.ownsRow_nil w _ _ _) p b.length c (b.flatMap cl3) (flat_len cl3_len b) hnews (flat_one cl3_one b) (by unfold maxLen; omega) (by omega) (Nat.le_refl _)
    unfold Oper.wp
    simp [execOp, ho, resolve, invoke, builtin, hs, hx, hrun, Result.andThen]
    rw [Nat.zero_add, List.nil_append] at r1
    exact hK _ _ (h _ _ r1 r2)
end Go.Proofs.Ytfplhpkolcgpiaa
