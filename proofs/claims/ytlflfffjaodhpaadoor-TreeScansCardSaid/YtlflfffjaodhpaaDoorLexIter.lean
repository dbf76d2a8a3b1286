/- The iterator of the landed package lex: what it yields, one behind the other. -/
import Derived.Test.YtlflfffjaodhpaaDoorIterLoop
import Derived.Test.YtlflfffjaodhpaaDoorLexLeafB
namespace Go.Proofs.YtlflfffjaodhpaaDoor
open Go.RowKit
open Go.Lib
set_option linter.unusedVariables false
set_option linter.unusedSimpArgs false
attribute [local go_sem] Oper.semAt_some

def Y (t : Tok) : Array Value := #[TK t, .int .i64 0]
def yields (l : List UInt8) : List (Array Value) := (lxP 0 l).1.map Y ++ (match (lxP 0 l).2 with | none => [] | some k => [#[TK (0, [], 0, (k : Int)), .int .i64 61]])
theorem piece_as (S : ByteArray) (c : UInt8) (t x : List UInt8) (hS : Hid (S = B (c :: t))) (hx : Hid (pcOf (c :: t) = x)) (hl : t.length + 1 ≤ 2000) (w0 w : World) (hr : Rel w0 w) : Calls Tryd.prog 55 #[.string S] w fun e w' => e = .returned (.string (B x)) ∧ Rel w0 w' := by
  rw [hS.out, ← hx.out]; exact lpiece_list c t hl w0 w hr
theorem token_yes (x : List UInt8) (k n : Int) (c : UInt8) (y : List UInt8) (hx : Hid (x = c :: y)) (h : Hid (told x = some (k, n))) (hl : x.length ≤ 2000) (w0 w : World) (hr : Rel w0 w) : Calls Tryd.prog 54 #[.string (B x)] w fun e w' => e = .returned (.tuple #[TK (k, x, n, 0), .int .i64 0]) ∧ Rel w0 w' := by
  have hx := hx.out
  subst hx
  refine (ltoken_any c y (by simpa using hl) w0 w hr).mono ?_
  rintro e w' ⟨⟨k', n', h', he⟩ | ⟨h', _⟩, hr'⟩
  · rw [h.out] at h'; injection h' with h'; injection h' with a b; subst a; subst b; exact ⟨he, hr'⟩
  · rw [h.out] at h'; cases h'
theorem token_no (x : List UInt8) (c : UInt8) (y : List UInt8) (hx : Hid (x = c :: y)) (h : Hid (told x = none)) (hl : x.length ≤ 2000) (w0 w : World) (hr : Rel w0 w) : Calls Tryd.prog 54 #[.string (B x)] w fun e w' => e = .returned (.tuple #[TK (0, [], 0, 0), .int .i64 61]) ∧ Rel w0 w' := by
  have hx := hx.out
  subst hx
  refine (ltoken_any c y (by simpa using hl) w0 w hr).mono ?_
  rintro e w' ⟨⟨k', n', h', he⟩ | ⟨h', he⟩, hr'⟩
  · rw [h.out] at h'; cases h'
  · exact ⟨he, hr'⟩
theorem yields_at {l : List UInt8} {ts r : List Tok} {t : Tok} (h : (lxP 0 l).1 = ts ++ t :: r) : ∃ rest, yields l = ts.map Y ++ Y t :: rest := by
  unfold yields
  obtain ⟨q, hq⟩ : ∃ q, (match (lxP 0 l).2 with | none => [] | some k => [#[TK (0, [], 0, (k : Int)), Value.int .i64 61]]) = q := ⟨_, rfl⟩
  rw [hq, h]
  exact ⟨r.map Y ++ q, by simp⟩
theorem yields_end {l : List UInt8} {ts : List Tok} {k : Nat} (h : lxP 0 l = (ts, some k)) : yields l = ts.map Y ++ [#[TK (0, [], 0, (k : Int)), .int .i64 61]] := by
  unfold yields; rw [h]
theorem yields_all {l : List UInt8} {ts : List Tok} (h : lxP 0 l = (ts, none)) : yields l = ts.map Y := by
  unfold yields; rw [h]; simp
set_option maxRecDepth 100000 in
set_option maxHeartbeats 4000000 in
theorem tokens_in (n : Nat) (hn : 2 ≤ n) (s : ByteArray) (hs : s.size ≤ 2000) (b : Nat) :
    IterOk n 52 #[.pointer (some ⟨b, 0, none⟩)] (yields s.data.toList) (fun W => Tab W ∧ Bk W b 9 #[.string s]) := by
  intro l' J Jx hJr hJw hY m0 W h0
  have hn1 : 1 ≤ n := by omega
  have HY := Lib.hid hY
  have HJr := Lib.hid hJr
  have HJw := Lib.hid hJw
  have H0 := Lib.hid h0
  clear hY hJr hJw h0
  refine callsIn_of_wp Tryd.func52 rfl trivial ?_ rfl
  simp only [Tryd.ntmps52, List.size_toArray, List.length_cons, List.length_nil, Nat.reduceAdd, Nat.reduceSub, Array.replicate_succ, Array.replicate_zero, List.push_toArray, List.append_toArray, List.nil_append, List.cons_append]
  gi_wp2
  have hsl : s.data.toList.length = s.size := by simp
  have HSL := Lib.hid hsl
  clear hsl
  gi_loopw [3] (fun at' wr => ∃ (p m : Nat) (ts : List Tok), p ≤ s.size ∧ at' = .int .i64 p ∧ Hid (AtP s.data.toList p ts) ∧ Hid (J (ts.map Y) m wr)) (fun at' _ => s.size - (RowKit.intOf at').toNat)
  case atStart => exact ⟨0, m0, [], by omega, rfl, Lib.hid (AtP.start _), H0⟩
  case round =>
    obtain ⟨p, m, ts, hp, rfl, HA, HJ⟩ := hrel
    have p1 := (HJw.out _ _ _ HJ.out).1.2.cell 0
    have hmw := (HJw.out _ _ _ HJ.out).2
    simp only [List.getElem?_toArray, List.getElem?_cons_zero] at p1
    by_cases hlt : p < s.size
    · have hgo : ∀ h, s[p]'h = s[p]'hlt := fun h => rfl
      obtain ⟨cc, hcc⟩ : ∃ cc, cc = s[p]'hlt := ⟨_, rfl⟩
      rw [← hcc] at hgo
      have hdp := drop_cons s p hlt
      rw [← hcc] at hdp
      obtain ⟨tl, htl⟩ : ∃ tl, tl = s.data.toList.drop (p + 1) := ⟨_, rfl⟩
      rw [← htl] at hdp
      have hll : tl.length + 1 + p = s.size := by rw [htl, List.length_drop, HSL.out]; omega
      have HD := Lib.hid hdp
      clear hcc hdp htl
      cases hb : isBl cc
      · have HBl := Lib.hid hb
        have hd1 : s.extract p s.size = B (cc :: tl) := by rw [B_cut, List.take_of_length_le (by rw [List.length_drop, HSL.out]; omega), HD.out]
        obtain ⟨x, hx⟩ : ∃ x, pcOf (cc :: tl) = x := ⟨_, rfl⟩
        obtain ⟨y, hy0⟩ := pc_head cc tl
        have hxl : x.length ≤ tl.length + 1 := by rw [← hx]; exact pc_len_le (cc :: tl)
        have hx1 : 1 ≤ x.length := by rw [← hx, hy0]; simp
        have hpc := HA.out.piece HD.out hb
        rw [hx] at hpc hy0
        have HXC := Lib.hid hy0
        have HPX := Lib.hid hx
        have hS9 := Rel.start (HJw.out _ _ _ HJ.out).1.1
        have ltl : tl.length + 1 ≤ 2000 := by omega
        have lx2 : x.length ≤ 2000 := by omega
        have bxs : (B x).size = x.length := B_size x
        clear hb hx hy0
        rcases hpc with ⟨k, n0, htd, hat, hrest⟩ | ⟨htd, hend⟩
        · have HTD := Lib.hid htd
          have HN := Lib.hid hat
          have HYr := Lib.hid hrest
          clear htd hat hrest
          gi_wp2_with (first
            | (refine ⟨trivial, ?_⟩; gi_at_call 53; refine (callsIn_wide.2 (bool_at false (lblank_any cc _) HBl)).mono ?_; rintro e w' ⟨rfl, rfl⟩)
            | (refine ⟨trivial, ?_⟩; gi_at_call 55; refine (callsIn_wide.2 (piece_as (B (cc :: tl)) cc tl x (Lib.hid rfl) HPX ltl _ _ hS9.self)).mono ?_; rintro e w3 ⟨rfl, h3⟩)
            | (refine ⟨trivial, ?_⟩; gi_at_call 54; refine (callsIn_wide.2 (token_yes x k n0 cc y HXC HTD lx2 _ _ h3.self)).mono ?_; rintro e w4 ⟨rfl, h4⟩; obtain ⟨fn, tmps, assign, body, hy, hR⟩ := HY.out (ts.map Y) m (Y (k, x, n0, (p : Int))) (w4.alloc (.cells #[.int .i64 k, .string (B x), .int .i64 n0, .int .i64 (p : Int)] 65)) (HJr.out _ _ _ _ HJ.out ((h3.trans h4).alloc _)) (by obtain ⟨r, hr⟩ := HYr.out; exact yields_at hr); change (Instr.yield l' #[.agg #[.int .i64 k, .string (B x), .int .i64 n0, .int .i64 (p : Int)], .int .i64 0]).run _ _ = _ at hy))
          refine hR.mono ?_
          rintro e W3 (⟨rfl, hJ3, hk3⟩ | ⟨rfl, hx3⟩)
          · have hgm : m ≤ w4.heap.size := by have := h3.size; have := h4.size; omega
            have c1 := (hk3.bk (Bk.new w4 65 #[.int .i64 k, .string (B x), .int .i64 n0, .int .i64 (p : Int)]) hgm).cell 1
            simp only [List.getElem?_toArray, List.getElem?_cons_succ, List.getElem?_cons_zero] at c1
            gi_wp2
            go_roundw
            case rel => exact ⟨p + x.length, _, ts ++ [(k, x, n0, (p : Int))], by omega, by go_num, HN, Lib.hid (by rw [List.map_append]; exact hJ3)⟩
            case measure => simp [RowKit.intOf]; omega
          · gi_wp2
            first | go_end0 | refine bodyPost_ret (results_none rfl _ _ _) rfl ?_
            exact ⟨⟨_, rfl⟩, .inr hx3⟩
        · have HTD := Lib.hid htd
          have HYE := Lib.hid (yields_end hend)
          clear htd hend
          gi_wp2_with (first
            | (refine ⟨trivial, ?_⟩; gi_at_call 53; refine (callsIn_wide.2 (bool_at false (lblank_any cc _) HBl)).mono ?_; rintro e w' ⟨rfl, rfl⟩)
            | (refine ⟨trivial, ?_⟩; gi_at_call 55; refine (callsIn_wide.2 (piece_as (B (cc :: tl)) cc tl x (Lib.hid rfl) HPX ltl _ _ hS9.self)).mono ?_; rintro e w3 ⟨rfl, h3⟩)
            | (refine ⟨trivial, ?_⟩; gi_at_call 54; refine (callsIn_wide.2 (token_no x cc y HXC HTD lx2 _ _ h3.self)).mono ?_; rintro e w4 ⟨rfl, h4⟩; obtain ⟨fn, tmps, assign, body, hy, hR⟩ := HY.out (ts.map Y) m #[TK (0, [], 0, (p : Int)), .int .i64 61] (w4.alloc (.cells #[.int .i64 0, .string (B []), .int .i64 0, .int .i64 (p : Int)] 65)) (HJr.out _ _ _ _ HJ.out ((h3.trans h4).alloc _)) (⟨[], HYE.out⟩); change (Instr.yield l' #[.agg #[.int .i64 0, .string (B []), .int .i64 0, .int .i64 (p : Int)], .int .i64 61]).run _ _ = _ at hy))
          refine hR.mono ?_
          rintro e W3 (⟨rfl, hJ3, _⟩ | ⟨rfl, hx3⟩)
          · gi_wp2
            first | go_end0 | refine bodyPost_ret (results_none rfl _ _ _) rfl ?_
            exact ⟨⟨_, rfl⟩, .inl ⟨_, by rw [HYE.out]; exact hJ3⟩⟩
          · gi_wp2
            first | go_end0 | refine bodyPost_ret (results_none rfl _ _ _) rfl ?_
            exact ⟨⟨_, rfl⟩, .inr hx3⟩
      · have HN := Lib.hid (HA.out.blank HD.out hb)
        have HBl := Lib.hid hb
        clear hb
        gi_wp2_with (refine ⟨trivial, ?_⟩; gi_at_call 53; refine (callsIn_wide.2 (bool_at true (lblank_any cc _) HBl)).mono ?_; rintro e w' ⟨rfl, rfl⟩)
        go_roundw
        case rel => exact ⟨p + 1, m, ts, by omega, by go_num, HN, HJ⟩
        case measure => simp [RowKit.intOf]; omega
    · obtain rfl : p = s.size := by omega
      have hA2 : AtP s.data.toList s.data.toList.length ts := by rw [HSL.out]; exact HA.out
      have HYE := Lib.hid (yields_all hA2.done)
      have HYF : Hid (yields s.data.toList = ts.map Y ++ [Y (5, [], 0, (s.size : Int))]) := Lib.hid (by rw [HYE.out, HSL.out]; simp)
      obtain ⟨fn, tmps, assign, body, hy, hR⟩ := HY.out (ts.map Y) m (Y (5, [], 0, (s.size : Int))) wr HJ.out ⟨[], HYF.out⟩
      change (Instr.yield l' #[.agg #[.int .i64 5, .string ⟨#[]⟩, .int .i64 0, .int .i64 (s.size : Int)], .int .i64 0]).run _ _ = _ at hy
      gi_wp2
      refine hR.mono ?_
      rintro e W3 (⟨rfl, hJ3, _⟩ | ⟨rfl, hx3⟩)
      · gi_wp2
        first | go_end0 | refine bodyPost_ret (results_none rfl _ _ _) rfl ?_
        exact ⟨⟨_, rfl⟩, .inl ⟨_, by rw [HYF.out]; exact hJ3⟩⟩
      · gi_wp2
        first | go_end0 | refine bodyPost_ret (results_none rfl _ _ _) rfl ?_
        exact ⟨⟨_, rfl⟩, .inr hx3⟩
end Go.Proofs.YtlflfffjaodhpaaDoor
