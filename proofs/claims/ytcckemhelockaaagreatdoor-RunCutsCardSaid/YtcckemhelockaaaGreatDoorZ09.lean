/- Numbers in rising order: what the library's sort leaves in a row of one's own; The landed value code: a seller's price; the price at a place in rising order; The landed value code: the price at a place in rising order; The landed value code: a part cut off; both of two, the lesser and the greater one, the first or else the second one. -/
import Derived.Test.YtcckemhelockaaaGreatDoorZL
import Derived.Test.YtcckemhelockaaaGreatDoorZ00
import Derived.Test.YtcckemhelockaaaGreatDoorZ01
import Derived.Test.YtcckemhelockaaaGreatDoorZ02
import Derived.Test.YtcckemhelockaaaGreatDoorZ03
import Derived.Test.YtcckemhelockaaaGreatDoorZ04
import Derived.Test.YtcckemhelockaaaGreatDoorZ05
import Derived.Test.YtcckemhelockaaaGreatDoorZ07
import Derived.Test.YtcckemhelockaaaGreatDoorZ08
namespace Go.Proofs.YtcckemhelockaaaGreatDoor
open Go.RowKit Go.Lib
set_option linter.unusedVariables false
set_option linter.unusedSimpArgs false
theorem up_pair {l : List Int} (h : l.Pairwise (fun a b => decide (a ≤ b) = true)) : Up l := by
  induction h with
  | nil => trivial
  | cons h _ ih => exact ⟨fun b hb => of_decide_eq_true (h b hb), ih⟩
theorem srt_self {l : List Int} (h : Up l) : srt l = l := by
  induction l with
  | nil => rfl
  | cons a t ih => rw [srt, ih h.2]; cases t with
    | nil => rfl
    | cons b t => unfold ins; rw [if_pos (h.1 b (List.mem_cons_self ..))]
theorem merge_srt (l : List Int) : (l.mergeSort fun x y => decide (x ≤ y)) = srt l := by
  have h1 : (l.mergeSort fun x y => decide (x ≤ y)).Perm l := List.mergeSort_perm ..
  have h2 : Up (l.mergeSort fun x y => decide (x ≤ y)) := up_pair (List.pairwise_mergeSort (by intro a b c h1 h2; simp only [decide_eq_true_eq] at *; omega) (by intro a b; simp only [Bool.or_eq_true, decide_eq_true_eq]; omega) l)
  rw [← srt_perm h1, srt_self h2]
/-- A row of numbers of the call's own. -/
def NumOwn (w : World) (base : Nat) (v : Value) (xs : List Int) : Prop := w.ownsRow base 3 1 v xs.length (xs.map (Value.int .i64))
theorem NumOwn.nil (w : World) (base : Nat) : NumOwn w base (.slice none 0 0) [] := World.ownsRow_nil _ _ _ _
theorem NumOwn.rel {w w' : World} {base : Nat} {v : Value} {xs : List Int} (h : NumOwn w base v xs) (hr : Rel w w') : NumOwn w' base v xs := own_rel h hr
theorem NumOwn.more {w1 : World} {base g cap : Nat} {xs : List Int} {n : Int}
    (h : w1.ownsRow base 3 1 (.slice (some ⟨g, 0, none⟩) (xs.length + 1) cap) (xs.length + 1) (xs.map (Value.int .i64) ++ [.int .i64 n])) : NumOwn w1 base (.slice (some ⟨g, 0, none⟩) (xs.length + 1) cap) (xs ++ [n]) := by
  unfold NumOwn
  rw [List.length_append, List.map_append]; exact h
theorem num_info : (Tryz.prog.info? 3).map (fun i => (i.zero, i.size, i.bytes)) = some (some (.int .i64 0), 1, 8) := by kernel_rfl
theorem num_one (n : Int) : ∀ u ∈ [Value.int .i64 n], u.oneCell' = true := by
  intro u hu
  simp only [List.mem_cons, List.not_mem_nil, or_false] at hu
  subst hu; rfl
/-- A row of one's own that is not empty. -/
theorem NumOwn.some9 {w : World} {base n c : Nat} {A : Option Addr} {xs : List Int} (h : NumOwn w base (.slice A n c) xs) (hn : n = xs.length) (h0 : xs ≠ []) : ∃ g, A = some ⟨g, 0, none⟩ ∧ base ≤ g ∧ g < w.heap.size ∧ Sort.Holds (Value.int .i64) w g 0 xs.toArray := by
  have h : w.ownsRow base 3 1 (.slice A n c) xs.length (xs.map (Value.int .i64)) := h
  rcases h.2 with ⟨_, h1⟩ | ⟨g, cap, cur, hv, hb, hh, _⟩
  · exact absurd (List.length_eq_zero_iff.1 h1) h0
  · have hA : A = some ⟨g, 0, none⟩ := by injection hv
    subst hA
    have hc := h.cells (g := g) rfl
    refine ⟨g, rfl, hb, Bk.lt (t := 3) hh, fun j hj => ⟨?_, Bk.frozen (t := 3) hh _⟩⟩
    have hj' : j < xs.length := by simpa using hj
    have := hc j (.int .i64 xs[j]) (by rw [List.getElem?_map, List.getElem?_eq_getElem hj']; rfl)
    rw [addr_at] at this
    rw [this]
    simp [hj']
/-- What the sort leaves. -/
theorem sorted_row {w0 w : World} {g n : Nat} {xs : List Int} (os : Array Obj) (hr : Rel w0 w) (hg : w0.heap.size ≤ g) (hgl : g < w.heap.size) (hh : Sort.Holds (Value.int .i64) w g 0 xs.toArray) :
    Rel w0 (Sort.grow (Sort.putRow (Value.int .i64) (Sort.ahead w n) g 0 (xs.mergeSort fun x y => decide (x ≤ y)).toArray) os) ∧
    ∀ j v, (srt xs)[j]? = some v → (Sort.grow (Sort.putRow (Value.int .i64) (Sort.ahead w n) g 0 (xs.mergeSort fun x y => decide (x ≤ y)).toArray) os).cell? ⟨g, j, none⟩ = some (.int .i64 v) := by
  rw [merge_srt]
  have hh' : Sort.Holds (Value.int .i64) (Sort.ahead w n) g 0 xs.toArray := hh
  have hs : (srt xs).toArray.size = xs.toArray.size := by simp [srt_len]
  have hp := Sort.holds_putRow _ _ _ _ _ (srt xs).toArray hh' hs
  have hz : (Sort.putRow (Value.int .i64) (Sort.ahead w n) g 0 (srt xs).toArray).heap.size = w.heap.size := Sort.size_putRow ..
  have hq := Sort.holds_grow (Value.int .i64) _ os g 0 _ (by rw [hz]; exact hgl) hp
  refine ⟨?_, fun j v hv => ?_⟩
  · have h1 : Rel w0 (Sort.putRow (Value.int .i64) (Sort.ahead w n) g 0 (srt xs).toArray) := by
      refine ⟨hr.1, ⟨hr.2.os, hr.2.tape, hr.2.output, by rw [hz]; exact hr.2.size, fun k hk => ?_⟩⟩
      have : k ≠ g := by omega
      refine Eq.trans ?_ (hr.2.block k hk)
      show (w.heap.modify g _)[k]? = w.heap[k]?
      rw [Array.getElem?_modify, if_neg (Ne.symm this)]
    exact h1.grow os
  · have hl : j < (srt xs).length := (List.getElem?_eq_some_iff.1 hv).1
    have := (hq j (by simpa using hl)).1
    rw [Nat.zero_add] at this
    rw [this]
    obtain ⟨_, e⟩ := List.getElem?_eq_some_iff.1 hv
    subst e
    simp [hl]
end Go.Proofs.YtcckemhelockaaaGreatDoor

namespace Go.Proofs.YtcckemhelockaaaGreatDoor
open Go.RowKit Go.Lib
set_option linter.unusedVariables false
set_option linter.unusedSimpArgs false
theorem off_box (w : World) (s : ByteArray) (p : Int) : Bk (w.alloc (.cells #[.string s, .int .i64 p] 53)) w.heap.size 53 #[.string s, .int .i64 p] := Bk.new w _ _
set_option maxRecDepth 100000 in
set_option maxHeartbeats 4000000 in
theorem vfrom_any (nm : List UInt8) (A : Option Addr) (c : Nat) (os : List Of) (w0 w : World) (hr : Rel w0 w) (ho : OffArg w A c os) :
    Calls Tryz.prog 50 #[.slice A os.length c, .string (B nm)] w fun e w' => e = .returned (TV (fromO os nm)) ∧ Rel w0 w' := by
  have HR := Lib.hid hr
  have hz := hr.size
  have HT := Lib.hid (Bk.new w 81 #[.int .i64 0, .bool false])
  have HA := Lib.hid (hr.self.alloc (.cells #[.int .i64 0, .bool false] 81))
  have HOf := Lib.hid ho.2.2.2
  have hl : os.length ≤ 9223372036854775807 := by have := ho.1; have := ho.2.1; unfold maxLen at this; omega
  obtain ⟨W, hW⟩ : ∃ W, w.alloc (.cells #[.int .i64 0, .bool false] 81) = W := ⟨_, rfl⟩
  rw [hW] at HT HA
  obtain ⟨X, hX⟩ : ∃ X, B nm = X := ⟨_, rfl⟩
  have HX := Lib.hid hX
  rw [hX]
  clear ho hX hr
  go_enter Tryz.func50, Tryz.ntmps50
  go_wp2_with (fail)
  go_loopw [9] (fun i wr => ∃ j : Nat, j ≤ os.length ∧ i = .int .i64 (j : Int) ∧ Hid (∀ k (hk : k < os.length), k < j → os[k].1 ≠ nm) ∧ Rel W wr) (fun i _ => os.length - (RowKit.intOf i).toNat)
  case atStart => exact ⟨0, by omega, rfl, Lib.hid (fun k _ hk => absurd hk (by omega)), HA.out.right2⟩
  case round =>
    obtain ⟨i, hi, rfl, HN, hRw⟩ := hrel
    have HRw := Lib.hid hRw
    by_cases hlt : i < os.length
    · obtain ⟨g, off, s, p, rfl, c0, c1, ho⟩ := offs_at HOf.out (HA.out.trans hRw) i hlt
      obtain ⟨Y, hY⟩ : ∃ Y, B s = Y := ⟨_, rfl⟩
      have HO := Lib.hid ho
      rw [hY] at c0
      have HY := Lib.hid hY
      have HBx := Lib.hid (off_box wr Y p)
      have HAx := Lib.hid (hRw.self.alloc (.cells #[.string Y, .int .i64 p] 53))
      obtain ⟨V, hV⟩ : ∃ V, wr.alloc (.cells #[.string Y, .int .i64 p] 53) = V := ⟨_, rfl⟩
      rw [hV] at HBx HAx
      obtain ⟨⟨x0, x1⟩, _⟩ := HBx.out.two
      clear ho hY hRw
      by_cases he : Y = X
      · have k1 := list_of.2 he
        have HV := Lib.hid (show fromO os nm = some p by
          have h1 : os[i].1 = nm := by rw [HO.out]; show s = nm; rw [← B_list s, ← B_list nm, HY.out, HX.out, he]
          rw [from_hit hlt h1 HN.out, HO.out])
        clear he
        go_wp2_with (go_at_call 59; (with_reducible refine (vamount_any p _ _ HAx.out.self).mono ?_); rintro e w3 ⟨rfl, h3⟩; have R3 := Lib.hid h3; obtain ⟨⟨d0, d1⟩, e0, e1⟩ := (HT.out.rel ((HRw.out.trans HAx.out).trans h3)).two)
        rw [HV.out]
        exact bodyPost_ret (v := TV (some p)) (by simp [results, Tryz.results50, go_sem, d0, d1]) rfl ⟨rfl, ((((HR.out.trans HA.out).trans (HRw.out.trans HAx.out)).trans R3.out).setCell hz _).setCell hz _⟩
      · have k1 := list_ne he
        have HN2 : Hid (∀ k (hk : k < os.length), k < i + 1 → os[k].1 ≠ nm) := Lib.hid (fun k hk hki => by
          by_cases e : k = i
          · subst e
            rw [HO.out]
            show s ≠ nm
            intro e; subst e; exact he (HY.out.symm.trans HX.out)
          · exact HN.out k hk (by omega))
        clear he
        go_wp2_with (fail)
        go_roundw
        case rel => exact ⟨i + 1, by omega, by go_num, HN2, HRw.out.trans HAx.out⟩
        case measure => simp [RowKit.intOf]; omega
    · obtain rfl : i = os.length := by omega
      have HV := Lib.hid (show fromO os nm = none from from_none fun k hk => HN.out k hk hk)
      obtain ⟨⟨d0, d1⟩, e0, e1⟩ := (HT.out.rel hRw).two
      go_wp2_with (fail)
      rw [HV.out]
      exact bodyPost_ret (v := TV none) (by simp [results, Tryz.results50, go_sem, d0, d1]) rfl ⟨rfl, (((HR.out.trans HA.out).trans HRw.out).setCell hz _).setCell hz _⟩
end Go.Proofs.YtcckemhelockaaaGreatDoor

namespace Go.Proofs.YtcckemhelockaaaGreatDoor
open Go.RowKit Go.Lib
set_option linter.unusedVariables false
set_option linter.unusedSimpArgs false
theorem num_new (w : World) (n : Int) : ∀ j u, [Value.int .i64 n][j]? = some u → (w.alloc (.cells #[.int .i64 n] 3)).cell? ((⟨w.heap.size, 0, none⟩ : Addr).add j) = some u := World.news_of_block (Bk.new w 3 #[.int .i64 n])
theorem NumOwn.slice {w : World} {base : Nat} {v : Value} {xs : List Int} (h : NumOwn w base v xs) : ∃ A c, v = .slice A xs.length c := by
  have h : w.ownsRow base 3 1 v xs.length (xs.map (Value.int .i64)) := h
  obtain ⟨A, c, e, _⟩ := own_slice h
  exact ⟨A, c, e⟩
theorem prices_take (os : List Of) (i : Nat) (h : i < os.length) : prices (os.take (i + 1)) = prices (os.take i) ++ [os[i].2] := by
  unfold prices
  rw [List.take_succ_eq_append_getElem h, List.map_append]; rfl
theorem prices_tlen (os : List Of) (i : Nat) (h : i ≤ os.length) : (prices (os.take i)).length = i := by
  unfold prices; rw [List.length_map, List.length_take]; omega
set_option maxRecDepth 100000 in
set_option maxHeartbeats 4000000 in
theorem vranked_any (n : Nat) (hn : n ≤ 100) (A : Option Addr) (c : Nat) (os : List Of) (h8 : os.length ≤ 8) (w0 w : World) (hr : Rel w0 w) (ho : OffArg w A c os) :
    Calls Tryz.prog 53 #[.slice A os.length c, .int .i64 (n : Int)] w fun e w' => e = .returned (TV (rk os n)) ∧ Rel w0 w' := by
  have HR := Lib.hid hr
  have hz := hr.size
  obtain ⟨i0, hi0, hz0, hz1, hz2⟩ := info_parts num_info
  have HT := Lib.hid (Bk.new w 81 #[.int .i64 0, .bool false])
  have HA := Lib.hid (hr.self.alloc (.cells #[.int .i64 0, .bool false] 81))
  have HOf := Lib.hid ho.2.2.2
  have hsz : w.heap.size ≤ (w.alloc (.cells #[.int .i64 0, .bool false] 81)).heap.size := by rw [World.size_alloc]; omega
  obtain ⟨W, hW⟩ : ∃ W, w.alloc (.cells #[.int .i64 0, .bool false] 81) = W := ⟨_, rfl⟩
  rw [hW] at HT HA hsz
  obtain ⟨⟨d0, d1⟩, e0, e1⟩ := HT.out.two
  clear ho hr
  by_cases hge : os.length ≤ n
  · have HV := Lib.hid (show rk os n = none by unfold rk; rw [List.getElem?_eq_none]; rw [srt_len, prices_len]; exact hge)
    have t1 : decide ((os.length : Int) ≤ (n : Int)) = true := decide_eq_true (by omega)
    go_enter Tryz.func53, Tryz.ntmps53
    rw [HV.out]
    go_wp2_with (fail)
    exact bodyPost_ret (v := TV none) (by simp [results, Tryz.results53, go_sem, d0, d1]) rfl ⟨rfl, ((HR.out.trans HA.out).setCell hz _).setCell hz _⟩
  · have t1 : decide ((os.length : Int) ≤ (n : Int)) = false := decide_eq_false (by omega)
    have hlt0 : n < os.length := by omega
    obtain ⟨v, hv⟩ : ∃ v, rk os n = some v := by
      have : n < (srt (prices os)).length := by rw [srt_len, prices_len]; exact hlt0
      exact ⟨_, List.getElem?_eq_getElem this⟩
    have HV := Lib.hid hv
    have hN : (n : Int) < (os.length : Int) := by omega
    clear hv d0 d1 e0 e1
    go_enter Tryz.func53, Tryz.ntmps53
    rw [HV.out]
    go_wp2_with (fail)
    go_loopw [5, 15] (fun ps i wr => ∃ j : Nat, j ≤ os.length ∧ i = .int .i64 (j : Int) ∧ NumOwn wr W.heap.size ps (prices (os.take j)) ∧ Rel W wr) (fun _ i _ => os.length - (RowKit.intOf i).toNat)
    case atStart => exact ⟨0, by omega, rfl, NumOwn.nil _ _, HA.out.right2⟩
    case round =>
      obtain ⟨i, hi, rfl, hown, hRw⟩ := hrel
      have HRw := Lib.hid hRw
      by_cases hlt : i < os.length
      · obtain ⟨A2, c2, rfl⟩ := hown.slice
        obtain ⟨g, off, s, p, rfl, c0, c1, ho⟩ := offs_at HOf.out (HA.out.trans hRw) i hlt
        obtain ⟨Y, hY⟩ : ∃ Y, B s = Y := ⟨_, rfl⟩
        rw [hY] at c0
        have HP := Lib.hid (show prices (os.take (i + 1)) = prices (os.take i) ++ [p] by rw [prices_take os i hlt, ho])
        have hpl := prices_tlen os i hi
        have HBx := Lib.hid (off_box wr Y p)
        have HAx := Lib.hid (hRw.self.alloc (.cells #[.string Y, .int .i64 p] 53))
        obtain ⟨V, hV⟩ : ∃ V, wr.alloc (.cells #[.string Y, .int .i64 p] 53) = V := ⟨_, rfl⟩
        rw [hV] at HBx HAx
        obtain ⟨⟨x0, x1⟩, _⟩ := HBx.out.two
        have HOV := Lib.hid (hown.rel HAx.out)
        generalize prices (os.take i) = ps at *
        have hb : W.heap.size ≤ V.heap.size := (hRw.trans HAx.out).size
        have HL := Lib.hid hpl
        have hps : ps.length ≤ 8 := by omega
        clear ho hY hRw hown hpl
        go_wp2_with (at_builtin; (refine wpList_append_lies _ rfl _ _ 35 rfl W.heap.size 3 i0 (.int .i64 0) 1 8 Tryz.underlying35 hi0 hz0 hz1 hz2 rfl (by decide) _ ps.length (ps.map (Value.int .i64)) rfl ((show V.ownsRow W.heap.size 3 1 (.slice A2 ps.length c2) ps.length (ps.map (Value.int .i64)) from HOV.out).alloc _) ⟨V.heap.size, 0, none⟩ 1 1 [.int .i64 p] rfl rfl (num_new V p) (num_one p) (by decide) (by unfold maxLen; omega) (by omega) (by simp; omega) _ rfl ?_); intro g1 cap w1 hown1 hgrow hat hlt1)
        have R1 : Rel W w1 := ((HRw.out.trans HAx.out).alloc _).grown hgrow (fun k hk => ((show V.ownsRow W.heap.size 3 1 (.slice A2 ps.length c2) ps.length (ps.map (Value.int .i64)) from HOV.out).lt k hk).1)
        have HO1 := Lib.hid (NumOwn.more hown1)
        have HL2 := Lib.hid (show ps.length + 1 = i + 1 by rw [HL.out])
        go_roundw
        case rel => exact ⟨i + 1, by omega, by go_num, by rw [HP.out]; exact HO1.out, R1⟩
        case measure => simp [RowKit.intOf]; omega
      · obtain rfl : i = os.length := by omega
        rw [List.take_length] at hown
        obtain ⟨A2, c2, rfl⟩ := hown.slice
        have HOwn := Lib.hid hown
        have hpl := prices_len os
        have hv2 := HV.out
        unfold rk at hv2
        have hne : prices os ≠ [] := fun e => by rw [e] at hpl; simp at hpl; omega
        obtain ⟨g, rfl, hb, hgl, hh⟩ := NumOwn.some9 HOwn.out rfl hne
        have HSt := Lib.hid (fun (os' : Array Obj) (m : Nat) => sorted_row (n := m) os' hRw hb hgl hh)
        have HSort := Lib.hid (Tryz.slices_Sort_int g 0 c2 (prices os) wr hh hgl (by rw [hpl]; omega))
        have HV2 := Lib.hid hv2
        have hN2 : n < (prices os).length := by omega
        have hN3 : (n : Int) < ((prices os).length : Int) := by omega
        clear hv2 hh hRw HOwn hown hpl hne
        go_wp2_with (first
          | (go_at_call 99; (with_reducible refine HSort.out.mono ?_); rintro e w1 ⟨rfl, m, os', rfl⟩; have R1 := Lib.hid (HSt.out os' m).1; have cv := (HSt.out os' m).2 n v HV2.out; obtain ⟨w1, hw1⟩ : ∃ w1, Sort.grow (Sort.putRow (Value.int .i64) (Sort.ahead wr m) g 0 ((prices os).mergeSort fun x y => decide (x ≤ y)).toArray) os' = w1 := ⟨_, rfl⟩; rw [hw1] at R1 cv ⊢; clear hw1)
          | (go_at_call 59; (with_reducible refine (vamount_any v _ _ R1.out.self).mono ?_); rintro e w3 ⟨rfl, h3⟩; have R3 := Lib.hid h3; obtain ⟨⟨d0, d1⟩, e0, e1⟩ := (HT.out.rel (R1.out.trans h3)).two))
        exact bodyPost_ret (v := TV (some v)) (by simp [results, Tryz.results53, go_sem, d0, d1]) rfl ⟨rfl, ((((HR.out.trans HA.out).trans R1.out).trans R3.out).setCell hz _).setCell hz _⟩
end Go.Proofs.YtcckemhelockaaaGreatDoor

namespace Go.Proofs.YtcckemhelockaaaGreatDoor
open Go.RowKit Go.Lib
set_option linter.unusedVariables false
set_option linter.unusedSimpArgs false
def CPost (w0 : World) (r : Except Int Bool) (e : Ending) (w' : World) : Prop := match r with
  | .ok b => e = .returned (.bool b) ∧ Rel w0 w'
  | .error _ => e = FLV ∧ Rel w0 w'
theorem CPost.no {w0 w' : World} {r : Except Int Bool} {e : Ending} {er : Int} (h : r = .error er) (he : e = FLV) (hr : Rel w0 w') : CPost w0 r e w' := by subst h; exact ⟨he, hr⟩
theorem TPost.out {w0 w' : World} {r : Rs} {o : Option Int} {V : Int} {b : Bool} (h : r = .ok o) (hV : o.getD 0 = V) (hb : o.isSome = b) (hr : Rel w0 w') : TPost w0 r (.returned (.agg #[.int .i64 V, .bool b])) w' := by subst h; subst hV; subst hb; exact ⟨rfl, hr⟩
theorem tp_ok {f : FuncId} {args : Array Value} {w w0 : World} {r : Rs} {o : Option Int} {V : Int} {b : Bool} (h : Calls Tryz.prog f args w (TPost w0 r)) (hr : r = .ok o) (hV : o.getD 0 = V) (hb : o.isSome = b) : Calls Tryz.prog f args w fun e w' => e = .returned (.agg #[.int .i64 V, .bool b]) ∧ Rel w0 w' := by subst hr; subst hV; subst hb; exact h
theorem tp_no {f : FuncId} {args : Array Value} {w w0 : World} {r : Rs} {er : Int} (h : Calls Tryz.prog f args w (TPost w0 r)) (hr : r = .error er) : Calls Tryz.prog f args w fun e w' => e = FLV ∧ Rel w0 w' := by subst hr; exact h
def PToldAt (d : Nat) : Prop := ∀ (x : Ex) (S : Nat → Prop) (e : El) (A : Option Addr) (c : Nat) (os : List Of) (w0 w : World), fine d x = true → isCond x.k = false → Rel w0 w → ExAt S w e x → offsOk os = true → OffArg w A c os →
    Calls Tryz.prog 34 #[.slice A os.length c, EV e] w (TPost w0 (toldN os d x))
def PCondAt (d : Nat) : Prop := ∀ (x : Ex) (S : Nat → Prop) (e : El) (A : Option Addr) (c : Nat) (os : List Of) (w0 w : World), fine d x = true → isCond x.k = true → Rel w0 w → ExAt S w e x → offsOk os = true → OffArg w A c os →
    Calls Tryz.prog 58 #[.slice A os.length c, EV e] w (CPost w0 (condN os d x))
theorem pkid_ok {d : Nat} (H : PToldAt d) {S : Nat → Prop} {W : World} {el : El} {y : Ex} {A : Option Addr} {c : Nat} {os : List Of} (hx : fine d y = true) (hc : isCond y.k = false) (ha : ExAt S W el y) (hl : offsOk os = true) (ho : OffArg W A c os) {o : Option Int} {V : Int} {b : Bool} (hr : toldN os d y = .ok o) (hV : o.getD 0 = V) (hb : o.isSome = b) :
    ∀ w', Rel W w' → Calls Tryz.prog 34 #[.slice A os.length c, EV el] w' fun e w2 => e = .returned (.agg #[.int .i64 V, .bool b]) ∧ Rel w' w2 := fun w' h =>
  tp_ok (H y S el A c os w' w' hx hc h.self (ha.rel h) hl (ho.rel h)) hr hV hb
theorem pkid_no {d : Nat} (H : PToldAt d) {S : Nat → Prop} {W : World} {el : El} {y : Ex} {A : Option Addr} {c : Nat} {os : List Of} (hx : fine d y = true) (hc : isCond y.k = false) (ha : ExAt S W el y) (hl : offsOk os = true) (ho : OffArg W A c os) {er : Int} (hr : toldN os d y = .error er) :
    ∀ w', Rel W w' → Calls Tryz.prog 34 #[.slice A os.length c, EV el] w' fun e w2 => e = FLV ∧ Rel w' w2 := fun w' h =>
  tp_no (H y S el A c os w' w' hx hc h.self (ha.rel h) hl (ho.rel h)) hr
theorem pcnd_ok {d : Nat} (H : PCondAt d) {S : Nat → Prop} {W : World} {el : El} {y : Ex} {A : Option Addr} {c : Nat} {os : List Of} (hx : fine d y = true) (hc : isCond y.k = true) (ha : ExAt S W el y) (hl : offsOk os = true) (ho : OffArg W A c os) {b : Bool} (hr : condN os d y = .ok b) :
    ∀ w', Rel W w' → Calls Tryz.prog 58 #[.slice A os.length c, EV el] w' fun e w2 => e = .returned (.bool b) ∧ Rel w' w2 := fun w' h => by
  have := H y S el A c os w' w' hx hc h.self (ha.rel h) hl (ho.rel h)
  rw [hr] at this; exact this
theorem pcnd_no {d : Nat} (H : PCondAt d) {S : Nat → Prop} {W : World} {el : El} {y : Ex} {A : Option Addr} {c : Nat} {os : List Of} (hx : fine d y = true) (hc : isCond y.k = true) (ha : ExAt S W el y) (hl : offsOk os = true) (ho : OffArg W A c os) {er : Int} (hr : condN os d y = .error er) :
    ∀ w', Rel W w' → Calls Tryz.prog 58 #[.slice A os.length c, EV el] w' fun e w2 => e = FLV ∧ Rel w' w2 := fun w' h => by
  have := H y S el A c os w' w' hx hc h.self (ha.rel h) hl (ho.rel h)
  rw [hr] at this; exact this
/-- Behind the boxes of a call: the argument's, and its answer's. -/
def SB (w w' : World) (ty : TypeId) (xs : Array Value) : Prop := Rel w w' ∧ Bk w' w.heap.size ty xs ∧ ∃ a b, Bk w' (w.heap.size + 1) 81 #[a, b]
theorem SB.rel {w w' w2 : World} {ty : TypeId} {xs : Array Value} (h : SB w w' ty xs) (hr : Rel w' w2) : SB w w2 ty xs := by
  obtain ⟨h1, h2, a, b, h3⟩ := h
  exact ⟨h1.trans hr, h2.rel hr, a, b, h3.rel hr⟩
theorem SB.new {w : World} (hr : Rel w w) (ty : TypeId) (xs : Array Value) : SB w ((w.alloc (.cells xs ty)).alloc (.cells #[.int .i64 0, .bool false] 81)) ty xs :=
  ⟨(hr.alloc _).alloc _, (Bk.new w ty xs).alloc _, _, _, Bk.snd w xs #[.int .i64 0, .bool false] ty 81⟩
theorem SB.r {w w' : World} {ty : TypeId} {xs : Array Value} (h : SB w w' ty xs) : Rel w w' := h.1
theorem SB.self {w w' : World} {ty : TypeId} {xs : Array Value} (h : SB w w' ty xs) : Rel w' w' := h.1.self
theorem SB.put {w w' : World} {ty : TypeId} {xs : Array Value} (h : SB w w' ty xs) (a b : Value) : SB w ((w'.setCell ⟨w.heap.size + 1, 0, none⟩ a).setCell ⟨w.heap.size + 1, 1, none⟩ b) ty xs := by
  obtain ⟨h1, h2, u, v, h3⟩ := h
  refine ⟨(h1.setCell (Nat.le_succ _) a).setCell (Nat.le_succ _) b, (h2.far (Nat.ne_of_lt (Nat.lt_succ_self _)) a).far (Nat.ne_of_lt (Nat.lt_succ_self _)) b, a, b, ?_⟩
  exact (h3.set_ 0 a).set_ 1 b
/-- An element of a row, whole. -/
def KidP (W : World) (A' : Option Addr) (i : Nat) (el : El) : Prop := ∃ g off, A' = some ⟨g, off, none⟩ ∧ g < W.heap.size ∧ W.cell? ⟨g, off + i, none⟩ = some (.int .i64 el.1) ∧ W.cell? ⟨g, off + i + 1, none⟩ = some (.int .i64 el.2.1) ∧ W.cell? ⟨g, off + i + 2, none⟩ = some (.string (B el.2.2.1)) ∧ W.cell? ⟨g, off + i + 3, none⟩ = some (.slice el.2.2.2.1 el.2.2.2.2.1 el.2.2.2.2.2)
theorem KidP.rel {W W' : World} {A' : Option Addr} {i : Nat} {el : El} (h : KidP W A' i el) (hr : Rel W W') : KidP W' A' i el := by
  obtain ⟨g, off, e, hl, h0, h1, h2, h3⟩ := h
  have hk : ∀ j, W'.cell? ⟨g, j, none⟩ = W.cell? ⟨g, j, none⟩ := fun j => hr.2.cell (p := ⟨g, j, none⟩) hl
  exact ⟨g, off, e, by have := hr.size; omega, by rw [hk]; exact h0, by rw [hk]; exact h1, by rw [hk]; exact h2, by rw [hk]; exact h3⟩
theorem kidp_of {S : Nat → Prop} {w W : World} {A' : Option Addr} {es : List El} {l : List Ex} (hrow : RowE S w A' es) (hsub : ∀ i (h : i < es.length) (h' : i < l.length), ExAt S w es[i] l[i]) (hl : es.length = l.length) (hr : Rel w W) (j : Nat) (hj : j < l.length) : ∃ el : El, KidP W A' (j * 4) el ∧ ExAt S W el l[j] := by
  obtain ⟨g, off, k, n, nm, A2, m, c, hA, h0, h1, h2, h3, ha⟩ := ExAt.arg hrow hsub hl hr j hj
  exact ⟨(k, n, nm, A2, m, c), ⟨g, off, hA, blk_of_cell h0, h0, h1, h2, h3⟩, ha⟩
theorem KidP.at0 {W : World} {g off : Nat} {el : El} (h : KidP W (some ⟨g, off, none⟩) 0 el) : W.cell? ⟨g, off, none⟩ = some (.int .i64 el.1) ∧ W.cell? ⟨g, off + 1, none⟩ = some (.int .i64 el.2.1) ∧ W.cell? ⟨g, off + 2, none⟩ = some (.string (B el.2.2.1)) ∧ W.cell? ⟨g, off + 3, none⟩ = some (.slice el.2.2.2.1 el.2.2.2.2.1 el.2.2.2.2.2) := by
  obtain ⟨g', off', e, _, h0, h1, h2, h3⟩ := h
  injection e with e; injection e with e1 e2; subst e1; subst e2
  exact ⟨h0, h1, h2, h3⟩
theorem KidP.at {W : World} {g off i : Nat} {el : El} (h : KidP W (some ⟨g, off, none⟩) i el) : W.cell? ⟨g, off + i, none⟩ = some (.int .i64 el.1) ∧ W.cell? ⟨g, off + i + 1, none⟩ = some (.int .i64 el.2.1) ∧ W.cell? ⟨g, off + i + 2, none⟩ = some (.string (B el.2.2.1)) ∧ W.cell? ⟨g, off + i + 3, none⟩ = some (.slice el.2.2.2.1 el.2.2.2.2.1 el.2.2.2.2.2) := by
  obtain ⟨g', off', e, _, h0, h1, h2, h3⟩ := h
  injection e with e; injection e with e1 e2; subst e1; subst e2
  exact ⟨h0, h1, h2, h3⟩
theorem KidP.is {W : World} {A' : Option Addr} {i : Nat} {el : El} (h : KidP W A' i el) : ∃ g off, A' = some ⟨g, off, none⟩ := by
  obtain ⟨g, off, e, _⟩ := h; exact ⟨g, off, e⟩
set_option maxRecDepth 100000 in
set_option maxHeartbeats 4000000 in
theorem vcut_none (v n : Int) (w0 w : World) (hr : Rel w0 w) :
    Calls Tryz.prog 55 #[.agg #[.int .i64 v, .bool false], .int .i64 n] w fun e w' => e = .returned (.agg #[.int .i64 0, .bool false]) ∧ Rel w0 w' := by
  have HR := Lib.hid hr
  have hz := hr.size
  have HS := Lib.hid (SB.new hr.self 81 #[.int .i64 v, .bool false])
  obtain ⟨W, hW⟩ : ∃ W, (w.alloc (.cells #[.int .i64 v, .bool false] 81)).alloc (.cells #[.int .i64 0, .bool false] 81) = W := ⟨_, rfl⟩
  rw [hW] at HS
  have hS9 := HS.out
  obtain ⟨⟨c0, c1⟩, _⟩ := hS9.2.1.two
  obtain ⟨a9, b9, hb9⟩ := hS9.2.2; obtain ⟨⟨d0, d1⟩, e0, e1⟩ := hb9.two
  clear hr hS9 hb9
  go_enter Tryz.func55, Tryz.ntmps55
  go_wp2_with (fail)
  exact bodyPost_ret (v := TV none) (by simp [results, Tryz.results55, go_sem, d0, d1]) rfl ⟨rfl, HR.out.trans (HS.out.put _ _).1⟩
set_option maxRecDepth 100000 in
set_option maxHeartbeats 4000000 in
theorem vcut_p (v n : Int) (h : part2 v n false = 10) (w0 w : World) (hr : Rel w0 w) :
    Calls Tryz.prog 55 #[.agg #[.int .i64 v, .bool true], .int .i64 n] w (TPost w0 (cutR v n)) := by
  have HR := Lib.hid hr
  have hz := hr.size
  have HS := Lib.hid (SB.new hr.self 81 #[.int .i64 v, .bool true])
  obtain ⟨W, hW⟩ : ∃ W, (w.alloc (.cells #[.int .i64 v, .bool true] 81)).alloc (.cells #[.int .i64 0, .bool false] 81) = W := ⟨_, rfl⟩
  rw [hW] at HS
  have hP := fun w => m9part_any v n false w
  unfold Two at hP
  have HF := Lib.hid (show cutR v n = .error 10 by unfold cutR; rw [if_neg (by omega), h])
  rw [h] at hP
  generalize part1 v n false = P at *
  have HP := Lib.hid hP
  clear h hP
  have hS9 := HS.out
  obtain ⟨⟨c0, c1⟩, _⟩ := hS9.2.1.two
  clear hr hS9
  go_enter Tryz.func55, Tryz.ntmps55
  go_upto_region 3 with (fail)
  refine wp_region_held_drew (S := (fun w' => SB w w' 81 #[.int .i64 v, .bool true])) (by kernel_rfl) (HS.out.rel HS.out.1.right2.drew) (fun hHeld => ?_)
  refine held_take (i := 0) (v := ?_) (some 9) rfl rfl (by kernel_rfl) (by kernel_rfl) (by kernel_rfl) (fun _ _ _ h => h) (Or.inl ⟨by rfl, ?_⟩) hHeld ?_
  rotate_left 1
  · intro w' (h : SB w w' 81 #[.int .i64 v, .bool true]); obtain ⟨⟨x0, x1⟩, _⟩ := h.2.1.two; go_simp; try with_reducible rfl
  try simp only [Act.put, List.setIfInBounds_toArray, List.set_cons_zero, List.set_cons_succ]
  refine held_take (i := 1) (v := ?_) (some 10) rfl rfl (by kernel_rfl) (by kernel_rfl) (by kernel_rfl) (fun _ _ _ h => h) (Or.inl ⟨by rfl, ?_⟩) hHeld ?_
  rotate_left 1
  · intro w' (h : SB w w' 81 #[.int .i64 v, .bool true]); obtain ⟨⟨x0, x1⟩, _⟩ := h.2.1.two; go_simp; try with_reducible rfl
  try simp only [Act.put, List.setIfInBounds_toArray, List.set_cons_zero, List.set_cons_succ]
  refine held_take (i := 2) (v := ?_) (some 11) rfl rfl (by kernel_rfl) (by kernel_rfl) (by kernel_rfl) (fun _ _ _ h => h) (Or.inl ⟨by rfl, ?_⟩) hHeld ?_
  rotate_left 1
  · intro w' (h : SB w w' 81 #[.int .i64 v, .bool true]); obtain ⟨⟨x0, x1⟩, _⟩ := h.2.1.two; go_simp; try with_reducible rfl
  try simp only [Act.put, List.setIfInBounds_toArray, List.set_cons_zero, List.set_cons_succ]
  refine held_take (i := 3) (v := ?_) (some 12) rfl rfl (by kernel_rfl) (by kernel_rfl) (by kernel_rfl) (fun _ _ _ h => h) (Or.inl ⟨by rfl, ?_⟩) hHeld ?_
  rotate_left 1
  · intro w' (h : SB w w' 81 #[.int .i64 v, .bool true]); obtain ⟨⟨x0, x1⟩, _⟩ := h.2.1.two; go_simp; try with_reducible rfl
  try simp only [Act.put, List.setIfInBounds_toArray, List.set_cons_zero, List.set_cons_succ]
  refine held_one (j := 4) (by kernel_rfl) rfl (fun K hK => ?_)
  try simp only [List.getElem_toArray, List.getElem_cons_succ, List.getElem_cons_zero]
  rw [if_pos (by rfl)]
  go_simp
  go_at_call 102
  (with_reducible refine (HP.out _).mono ?_)
  rintro e w8 ⟨rfl, rfl⟩
  refine hK.out _ _ hHeld (fun hHeld => ?_)
  clear hK K
  try simp only [Act.put, List.setIfInBounds_toArray, List.set_cons_zero, List.set_cons_succ]
  refine held_take (i := 5) (v := ?_) (some 14) rfl rfl (by kernel_rfl) (by kernel_rfl) (by kernel_rfl) (fun _ _ _ h => h) (Or.inl ⟨by rfl, ?_⟩) hHeld ?_
  rotate_left 1
  · intro w' (h : SB w w' 81 #[.int .i64 v, .bool true]); obtain ⟨⟨x0, x1⟩, _⟩ := h.2.1.two; go_simp; try with_reducible rfl
  try simp only [Act.put, List.setIfInBounds_toArray, List.set_cons_zero, List.set_cons_succ]
  refine held_take (i := 6) (v := ?_) (some 15) rfl rfl (by kernel_rfl) (by kernel_rfl) (by kernel_rfl) (fun _ _ _ h => h) (Or.inl ⟨by rfl, ?_⟩) hHeld ?_
  rotate_left 1
  · intro w' (h : SB w w' 81 #[.int .i64 v, .bool true]); obtain ⟨⟨x0, x1⟩, _⟩ := h.2.1.two; go_simp; try with_reducible rfl
  try simp only [Act.put, List.setIfInBounds_toArray, List.set_cons_zero, List.set_cons_succ]
  refine held_one (j := 7) (by kernel_rfl) rfl (fun K hK => ?_)
  try simp only [List.getElem_toArray, List.getElem_cons_succ, List.getElem_cons_zero]
  rw [if_pos (by rfl)]
  go_simp
  go_at_call 100
  (with_reducible refine (vsure_no P _).mono ?_)
  rintro e w7 ⟨rfl, rfl⟩
  exact ⟨rfl, TPost.no HF.out rfl (HR.out.trans hHeld.r)⟩
set_option maxRecDepth 100000 in
set_option maxHeartbeats 4000000 in
theorem vcut_e (v n : Int) (h : part2 v n false = 0) {er : Int} (hq : subR v (part1 v n false) = .error er) (w0 w : World) (hr : Rel w0 w) :
    Calls Tryz.prog 55 #[.agg #[.int .i64 v, .bool true], .int .i64 n] w (TPost w0 (cutR v n)) := by
  have HR := Lib.hid hr
  have hz := hr.size
  have HS := Lib.hid (SB.new hr.self 81 #[.int .i64 v, .bool true])
  obtain ⟨W, hW⟩ : ∃ W, (w.alloc (.cells #[.int .i64 v, .bool true] 81)).alloc (.cells #[.int .i64 0, .bool false] 81) = W := ⟨_, rfl⟩
  rw [hW] at HS
  have hP := fun w => m9part_any v n false w
  unfold Two at hP
  have hF : cutR v n = subR v (part1 v n false) := by unfold cutR; rw [if_pos h]
  rw [h] at hP
  rw [hF, hq]
  generalize part1 v n false = P at *
  have HP := Lib.hid hP
  have HL := Lib.hid (fun (w : World) (hr : Rel w w) => tp_no (vless_some v P w w hr) hq)
  clear h hP hF hq
  have hS9 := HS.out
  obtain ⟨⟨c0, c1⟩, _⟩ := hS9.2.1.two
  clear hr hS9
  go_enter Tryz.func55, Tryz.ntmps55
  go_upto_region 3 with (fail)
  refine wp_region_held_drew (S := (fun w' => SB w w' 81 #[.int .i64 v, .bool true])) (by kernel_rfl) (HS.out.rel HS.out.1.right2.drew) (fun hHeld => ?_)
  refine held_take (i := 0) (v := ?_) (some 9) rfl rfl (by kernel_rfl) (by kernel_rfl) (by kernel_rfl) (fun _ _ _ h => h) (Or.inl ⟨by rfl, ?_⟩) hHeld ?_
  rotate_left 1
  · intro w' (h : SB w w' 81 #[.int .i64 v, .bool true]); obtain ⟨⟨x0, x1⟩, _⟩ := h.2.1.two; go_simp; try with_reducible rfl
  try simp only [Act.put, List.setIfInBounds_toArray, List.set_cons_zero, List.set_cons_succ]
  refine held_take (i := 1) (v := ?_) (some 10) rfl rfl (by kernel_rfl) (by kernel_rfl) (by kernel_rfl) (fun _ _ _ h => h) (Or.inl ⟨by rfl, ?_⟩) hHeld ?_
  rotate_left 1
  · intro w' (h : SB w w' 81 #[.int .i64 v, .bool true]); obtain ⟨⟨x0, x1⟩, _⟩ := h.2.1.two; go_simp; try with_reducible rfl
  try simp only [Act.put, List.setIfInBounds_toArray, List.set_cons_zero, List.set_cons_succ]
  refine held_take (i := 2) (v := ?_) (some 11) rfl rfl (by kernel_rfl) (by kernel_rfl) (by kernel_rfl) (fun _ _ _ h => h) (Or.inl ⟨by rfl, ?_⟩) hHeld ?_
  rotate_left 1
  · intro w' (h : SB w w' 81 #[.int .i64 v, .bool true]); obtain ⟨⟨x0, x1⟩, _⟩ := h.2.1.two; go_simp; try with_reducible rfl
  try simp only [Act.put, List.setIfInBounds_toArray, List.set_cons_zero, List.set_cons_succ]
  refine held_take (i := 3) (v := ?_) (some 12) rfl rfl (by kernel_rfl) (by kernel_rfl) (by kernel_rfl) (fun _ _ _ h => h) (Or.inl ⟨by rfl, ?_⟩) hHeld ?_
  rotate_left 1
  · intro w' (h : SB w w' 81 #[.int .i64 v, .bool true]); obtain ⟨⟨x0, x1⟩, _⟩ := h.2.1.two; go_simp; try with_reducible rfl
  try simp only [Act.put, List.setIfInBounds_toArray, List.set_cons_zero, List.set_cons_succ]
  refine held_one (j := 4) (by kernel_rfl) rfl (fun K hK => ?_)
  try simp only [List.getElem_toArray, List.getElem_cons_succ, List.getElem_cons_zero]
  rw [if_pos (by rfl)]
  go_simp
  go_at_call 102
  (with_reducible refine (HP.out _).mono ?_)
  rintro e w8 ⟨rfl, rfl⟩
  refine hK.out _ _ hHeld (fun hHeld => ?_)
  clear hK K
  try simp only [Act.put, List.setIfInBounds_toArray, List.set_cons_zero, List.set_cons_succ]
  refine held_take (i := 5) (v := ?_) (some 14) rfl rfl (by kernel_rfl) (by kernel_rfl) (by kernel_rfl) (fun _ _ _ h => h) (Or.inl ⟨by rfl, ?_⟩) hHeld ?_
  rotate_left 1
  · intro w' (h : SB w w' 81 #[.int .i64 v, .bool true]); obtain ⟨⟨x0, x1⟩, _⟩ := h.2.1.two; go_simp; try with_reducible rfl
  try simp only [Act.put, List.setIfInBounds_toArray, List.set_cons_zero, List.set_cons_succ]
  refine held_take (i := 6) (v := ?_) (some 15) rfl rfl (by kernel_rfl) (by kernel_rfl) (by kernel_rfl) (fun _ _ _ h => h) (Or.inl ⟨by rfl, ?_⟩) hHeld ?_
  rotate_left 1
  · intro w' (h : SB w w' 81 #[.int .i64 v, .bool true]); obtain ⟨⟨x0, x1⟩, _⟩ := h.2.1.two; go_simp; try with_reducible rfl
  try simp only [Act.put, List.setIfInBounds_toArray, List.set_cons_zero, List.set_cons_succ]
  refine held_one (j := 7) (by kernel_rfl) rfl (fun K hK => ?_)
  try simp only [List.getElem_toArray, List.getElem_cons_succ, List.getElem_cons_zero]
  rw [if_pos (by rfl)]
  go_simp
  go_at_call 100
  (with_reducible refine (vsure_ok P _).mono ?_)
  rintro e w7 ⟨rfl, rfl⟩
  refine hK.out _ _ hHeld (fun hHeld => ?_)
  clear hK K
  try simp only [Act.put, List.setIfInBounds_toArray, List.set_cons_zero, List.set_cons_succ]
  refine held_one (j := 8) (by kernel_rfl) rfl (fun K hK => ?_)
  try simp only [List.getElem_toArray, List.getElem_cons_succ, List.getElem_cons_zero]
  rw [if_pos (by rfl)]
  go_simp
  go_at_call 54
  (with_reducible refine (HL.out _ hHeld.self).mono ?_)
  rintro e w6 ⟨rfl, h6⟩
  exact ⟨rfl, TPost.no rfl rfl (HR.out.trans (hHeld.r.trans h6))⟩
set_option maxRecDepth 100000 in
set_option maxHeartbeats 4000000 in
theorem vcut_s (v n : Int) (h : part2 v n false = 0) {o : Option Int} (hq : subR v (part1 v n false) = .ok o) (w0 w : World) (hr : Rel w0 w) :
    Calls Tryz.prog 55 #[.agg #[.int .i64 v, .bool true], .int .i64 n] w (TPost w0 (cutR v n)) := by
  have HR := Lib.hid hr
  have hz := hr.size
  have HS := Lib.hid (SB.new hr.self 81 #[.int .i64 v, .bool true])
  obtain ⟨W, hW⟩ : ∃ W, (w.alloc (.cells #[.int .i64 v, .bool true] 81)).alloc (.cells #[.int .i64 0, .bool false] 81) = W := ⟨_, rfl⟩
  rw [hW] at HS
  have hP := fun w => m9part_any v n false w
  unfold Two at hP
  have hF : cutR v n = subR v (part1 v n false) := by unfold cutR; rw [if_pos h]
  rw [h] at hP
  rw [hF, hq]
  generalize part1 v n false = P at *
  have HP := Lib.hid hP
  obtain ⟨V, hV⟩ : ∃ V, o.getD 0 = V := ⟨_, rfl⟩
  obtain ⟨b, hb⟩ : ∃ b, o.isSome = b := ⟨_, rfl⟩
  have HL := Lib.hid (fun (w : World) (hr : Rel w w) => tp_ok (vless_some v P w w hr) hq hV hb)
  have HV := Lib.hid hV
  have Hb := Lib.hid hb
  clear h hP hF hq hV hb
  have hS9 := HS.out
  obtain ⟨⟨c0, c1⟩, _⟩ := hS9.2.1.two
  clear hr hS9
  go_enter Tryz.func55, Tryz.ntmps55
  go_upto_region 3 with (fail)
  refine wp_region_held_drew (S := (fun w' => SB w w' 81 #[.int .i64 v, .bool true])) (by kernel_rfl) (HS.out.rel HS.out.1.right2.drew) (fun hHeld => ?_)
  refine held_take (i := 0) (v := ?_) (some 9) rfl rfl (by kernel_rfl) (by kernel_rfl) (by kernel_rfl) (fun _ _ _ h => h) (Or.inl ⟨by rfl, ?_⟩) hHeld ?_
  rotate_left 1
  · intro w' (h : SB w w' 81 #[.int .i64 v, .bool true]); obtain ⟨⟨x0, x1⟩, _⟩ := h.2.1.two; go_simp; try with_reducible rfl
  try simp only [Act.put, List.setIfInBounds_toArray, List.set_cons_zero, List.set_cons_succ]
  refine held_take (i := 1) (v := ?_) (some 10) rfl rfl (by kernel_rfl) (by kernel_rfl) (by kernel_rfl) (fun _ _ _ h => h) (Or.inl ⟨by rfl, ?_⟩) hHeld ?_
  rotate_left 1
  · intro w' (h : SB w w' 81 #[.int .i64 v, .bool true]); obtain ⟨⟨x0, x1⟩, _⟩ := h.2.1.two; go_simp; try with_reducible rfl
  try simp only [Act.put, List.setIfInBounds_toArray, List.set_cons_zero, List.set_cons_succ]
  refine held_take (i := 2) (v := ?_) (some 11) rfl rfl (by kernel_rfl) (by kernel_rfl) (by kernel_rfl) (fun _ _ _ h => h) (Or.inl ⟨by rfl, ?_⟩) hHeld ?_
  rotate_left 1
  · intro w' (h : SB w w' 81 #[.int .i64 v, .bool true]); obtain ⟨⟨x0, x1⟩, _⟩ := h.2.1.two; go_simp; try with_reducible rfl
  try simp only [Act.put, List.setIfInBounds_toArray, List.set_cons_zero, List.set_cons_succ]
  refine held_take (i := 3) (v := ?_) (some 12) rfl rfl (by kernel_rfl) (by kernel_rfl) (by kernel_rfl) (fun _ _ _ h => h) (Or.inl ⟨by rfl, ?_⟩) hHeld ?_
  rotate_left 1
  · intro w' (h : SB w w' 81 #[.int .i64 v, .bool true]); obtain ⟨⟨x0, x1⟩, _⟩ := h.2.1.two; go_simp; try with_reducible rfl
  try simp only [Act.put, List.setIfInBounds_toArray, List.set_cons_zero, List.set_cons_succ]
  refine held_one (j := 4) (by kernel_rfl) rfl (fun K hK => ?_)
  try simp only [List.getElem_toArray, List.getElem_cons_succ, List.getElem_cons_zero]
  rw [if_pos (by rfl)]
  go_simp
  go_at_call 102
  (with_reducible refine (HP.out _).mono ?_)
  rintro e w8 ⟨rfl, rfl⟩
  refine hK.out _ _ hHeld (fun hHeld => ?_)
  clear hK K
  try simp only [Act.put, List.setIfInBounds_toArray, List.set_cons_zero, List.set_cons_succ]
  refine held_take (i := 5) (v := ?_) (some 14) rfl rfl (by kernel_rfl) (by kernel_rfl) (by kernel_rfl) (fun _ _ _ h => h) (Or.inl ⟨by rfl, ?_⟩) hHeld ?_
  rotate_left 1
  · intro w' (h : SB w w' 81 #[.int .i64 v, .bool true]); obtain ⟨⟨x0, x1⟩, _⟩ := h.2.1.two; go_simp; try with_reducible rfl
  try simp only [Act.put, List.setIfInBounds_toArray, List.set_cons_zero, List.set_cons_succ]
  refine held_take (i := 6) (v := ?_) (some 15) rfl rfl (by kernel_rfl) (by kernel_rfl) (by kernel_rfl) (fun _ _ _ h => h) (Or.inl ⟨by rfl, ?_⟩) hHeld ?_
  rotate_left 1
  · intro w' (h : SB w w' 81 #[.int .i64 v, .bool true]); obtain ⟨⟨x0, x1⟩, _⟩ := h.2.1.two; go_simp; try with_reducible rfl
  try simp only [Act.put, List.setIfInBounds_toArray, List.set_cons_zero, List.set_cons_succ]
  refine held_one (j := 7) (by kernel_rfl) rfl (fun K hK => ?_)
  try simp only [List.getElem_toArray, List.getElem_cons_succ, List.getElem_cons_zero]
  rw [if_pos (by rfl)]
  go_simp
  go_at_call 100
  (with_reducible refine (vsure_ok P _).mono ?_)
  rintro e w7 ⟨rfl, rfl⟩
  refine hK.out _ _ hHeld (fun hHeld => ?_)
  clear hK K
  try simp only [Act.put, List.setIfInBounds_toArray, List.set_cons_zero, List.set_cons_succ]
  refine held_one (j := 8) (by kernel_rfl) rfl (fun K hK => ?_)
  try simp only [List.getElem_toArray, List.getElem_cons_succ, List.getElem_cons_zero]
  rw [if_pos (by rfl)]
  go_simp
  go_at_call 54
  (with_reducible refine (HL.out _ hHeld.self).mono ?_)
  rintro e w6 ⟨rfl, h6⟩
  have hS9 := hHeld.rel h6
  obtain ⟨a9, b9, hb9⟩ := hS9.2.2
  obtain ⟨⟨d0, d1⟩, e0, e1⟩ := hb9.two
  clear hb9
  refine hK.out _ _ hS9 (fun hHeld => ?_)
  clear hK K
  try simp only [Act.put, List.setIfInBounds_toArray, List.set_cons_zero, List.set_cons_succ]
  refine held_one (j := 9) (by kernel_rfl) rfl (fun K hK => ?_)
  try simp only [List.getElem_toArray, List.getElem_cons_succ, List.getElem_cons_zero]
  rw [if_pos (by rfl)]
  go_simp
  refine hK.out _ _ (hS9.put _ _) (fun hHeld => ?_)
  clear hK K
  try simp only [Act.put, List.setIfInBounds_toArray, List.set_cons_zero, List.set_cons_succ]
  refine wpAnyH_done (by kernel_rfl) ?_ _
  go_wp2_with (fail)
  exact bodyPost_ret (v := .agg #[.int .i64 V, .bool b]) (by simp [results, Tryz.results55, go_sem, d0, d1]) rfl (TPost.out rfl HV.out Hb.out (HR.out.trans hHeld.r))
theorem vcut_any (v n : Int) (w0 w : World) (hr : Rel w0 w) : Calls Tryz.prog 55 #[.agg #[.int .i64 v, .bool true], .int .i64 n] w (TPost w0 (cutR v n)) := by
  rcases part2_is v n false with h | h
  · cases hq : subR v (part1 v n false) with
    | ok o => exact vcut_s v n h hq w0 w hr
    | error er => exact vcut_e v n h hq w0 w hr
  · exact vcut_p v n h w0 w hr
end Go.Proofs.YtcckemhelockaaaGreatDoor
