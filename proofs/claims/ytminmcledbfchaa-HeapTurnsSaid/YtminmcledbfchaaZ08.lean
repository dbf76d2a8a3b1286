/- Layer 16, the landed code: all of them, by their keys; Layer 16: the law's pick, count and awake, over what is asked of the program; Raw pairs, raw triples and raw numbers as arguments, opened; the walks for the shell. -/
import Derived.Test.YtminmcledbfchaaZL
import Derived.Test.YtminmcledbfchaaZ00
import Derived.Test.YtminmcledbfchaaZ01
import Derived.Test.YtminmcledbfchaaZ06
import Derived.Test.YtminmcledbfchaaZ07
namespace Go.Proofs.Ytminmcledbfchaa
open Go.RowKit Go.Lib Go.Sort
set_option linter.unusedVariables false
set_option linter.unusedSimpArgs false
set_option maxRecDepth 100000 in
set_option maxHeartbeats 4000000 in
/-- slices.Clone. -/
theorem clone16 (b : List It) (A : Option Addr) (c : Nat) (w : World) (hr : Rel w w) (hA : A = none → c = 0) (hlen : b.length ≤ 1000) (hat : RowAt clH 2 w A b) :
    Calls Try.prog 35 #[.slice A b.length c] w fun e w' => ∃ A2 c2, e = .returned (.slice A2 b.length c2) ∧ RowOwn 36 clH 2 w' w.heap.size (.slice A2 b.length c2) b ∧ Rel w w' := by
  have hq := fun (w : World) (a : Option Addr) (n c : Nat) => run_eql_slice_nil (P := Try.prog) w 28 36 a n c 0 0 Try.underlying28
  obtain ⟨i0, hi0, hz⟩ := Option.map_eq_some_iff.1 item_info
  simp only [Prod.mk.injEq] at hz
  obtain ⟨hz0, hz1, hz2⟩ := hz
  have HB := Lib.hid hat
  have HA := Lib.hid hA
  have HR := Lib.hid hr
  clear hat hA hr
  cases A with
  | none =>
    obtain rfl := row_gone15 HB.out
    obtain rfl := HA.out rfl
    go_enter Try.func35, Try.ntmps35
    go_wp2_with (fail)
    go_ret
    exact ⟨none, 0, rfl, RowOwn.nil _ _ _, HR.out⟩
  | some p =>
    have HRow := Lib.hid (show RowOwn 36 clH 2 (w.alloc (.cells #[] 36)) w.heap.size (.slice (some ⟨w.heap.size, 0, none⟩) 0 0) [] from World.ownsRow_made w #[] 0 (Nat.le_refl _) (Nat.zero_le _) (by simp))
    have HB2 := Lib.hid (HB.out.rel (HR.out.alloc (.cells #[] 36)))
    go_enter Try.func35, Try.ntmps35
    go_wp2_with (at_builtin; (refine wpList_onto15 36 28 i0 (.agg #[.int .i64 0, .int .i64 0]) 16 Try.underlying28 hi0 hz0 hz1 hz2 rfl (by decide) clH_len clH_one rfl _ _ rfl w.heap.size (.slice (some ⟨w.heap.size, 0, none⟩) 0 0) [] rfl HRow.out (some p) b.length c b rfl rfl HB2.out (fun e => by cases e) (by rw [List.length_nil]; omega) (by rw [List.length_nil]; unfold maxLen; omega) (by rw [World.size_alloc]; omega) ?_); intro v2 w2 own2 gr2; obtain ⟨A2, c2, rfl, _⟩ := own2.slice_of; have O2 := Lib.hid own2; have G2 := Lib.hid gr2; clear own2 gr2)
    go_ret
    exact ⟨A2, c2, rfl, O2.out, (HR.out.alloc _).grown G2.out (fun q hq => by have h : w.heap.size = q := (by simpa [Value.ownBlock] using hq); omega)⟩
set_option maxHeartbeats 1000000 in
/-- The closure of All: two blocks are laid. -/
theorem cmp16 (x y : It) (W : World) : Calls Try.prog 37 #[.agg #[.int .i64 x.1, .int .i64 x.2], .agg #[.int .i64 y.1, .int .i64 y.2]] W fun e w' => e = .returned (.int .i64 (Lib.compareInt x.1 y.1)) ∧ ∃ q os', w' = grow (W.drewN q) os' := by
  have hcon := fun W' => Try.cmp_Compare_int x.1 y.1 W'
  generalize Lib.compareInt x.1 y.1 = r at hcon ⊢
  go_enter Try.func37, Try.ntmps37
  go_wp2_with (go_at_call 38; refine (hcon _).mono ?_; rintro e w' ⟨rfl, rfl⟩)
  go_ret
  exact ⟨rfl, 0, _, by rw [alloc_eq_grow, alloc_eq_grow, grow_grow]; rfl⟩
theorem lt16 (x y : It) : Go.Proofs.ltOf (fun x y : It => Lib.compareInt x.1 y.1) x y = decide (x.1 < y.1) := by
  unfold Go.Proofs.ltOf Lib.compareInt
  by_cases h1 : x.1 < y.1
  · simp [h1]
  · by_cases h2 : y.1 < x.1 <;> simp [h1, h2]
theorem swo16 : SWO (Go.Proofs.ltOf fun x y : It => Lib.compareInt x.1 y.1) where
  irrefl x := by rw [lt16]; simp
  trans x y z h1 h2 := by rw [lt16] at *; simp at *; omega
  ntrans x y z h1 h2 := by rw [lt16] at *; simp at *; omega
/-- What a sort by the keys leaves of a row: the items by their keys. -/
theorem sorted16 {l L : List It} (h : Rowed l L) {d' : Array It} (hp : PermIn 0 l.toArray.size l.toArray d') (hs : SortedIn (Go.Proofs.ltOf fun x y : It => Lib.compareInt x.1 y.1) 0 l.toArray.size d') : d'.toList = L := by
  have hsz : d'.size = l.length := by rw [hp.1]; simp
  have hperm : d'.toList.Perm l := by
    have := hp.2.2
    rw [show d'.extract 0 l.toArray.size = d' by rw [show l.toArray.size = d'.size by rw [hp.1]]; exact Array.extract_size] at this
    rw [show l.toArray.extract 0 l.toArray.size = l.toArray by exact Array.extract_size] at this
    exact this
  have hat : ∀ i, i < l.length → d'[i]! = d'.toList.getD i (0, 0) := fun i hi => by
    rw [getElem!_pos d' i (by omega), List.getD_eq_getElem?_getD, List.getElem?_eq_getElem (by rw [Array.length_toList]; omega)]
    simp
  have hsrt : Srt d'.toList := by
    refine List.pairwise_iff_getElem.2 fun i j hi hj hij => ?_
    rw [Array.length_toList, hsz] at hi hj
    have h1 := hs i j (Nat.zero_le _) hij (by simpa using hj)
    rw [lt16, decide_eq_false_iff_not] at h1
    have e1 : d'[i]! = d'.toList[i]'(by rw [Array.length_toList]; omega) := by rw [getElem!_pos d' i (by omega)]; simp
    have e2 : d'[j]! = d'.toList[j]'(by rw [Array.length_toList]; omega) := by rw [getElem!_pos d' j (by omega)]; simp
    rw [e1, e2] at h1
    have hpw : l.Pairwise fun a b : It => a.1 ≠ b.1 := List.pairwise_iff_getElem.2 fun a b ha hb hab e => by
      have := h.one a b ha hb (by rw [at_get ha, at_get hb]; exact e)
      omega
    have hpd : d'.toList.Pairwise fun a b : It => a.1 ≠ b.1 := (hperm.pairwise_iff (fun {_ _} q => Ne.symm q)).2 hpw
    have hne := List.pairwise_iff_getElem.1 hpd i j (by rw [Array.length_toList]; omega) (by rw [Array.length_toList]; omega) hij
    omega
  exact srt_ext hsrt h.srt fun z => hperm.mem_iff.trans (h.mem z)
theorem holds16 {w : World} {q : Nat} {l : List It} (ha : ∀ i, i < l.length → w.cell? ⟨q, i * 2, none⟩ = some (.int .i64 (atI l i).1) ∧ w.cell? ⟨q, i * 2 + 1, none⟩ = some (.int .i64 (atI l i).2)) (hf : ∀ j, w.frozen? ⟨q, j, none⟩ = false) : HoldsK clH 2 w q 0 l.toArray := by
  intro j hj
  rw [size_flatK] at hj
  have hi : j / 2 < l.length := by simp at hj; omega
  rw [get_flatK _ _ _ _ hj]
  have e : l.toArray[j / 2]! = atI l (j / 2) := by rw [getElem!_pos l.toArray (j / 2) (by simpa using hi), at_get hi]; simp
  rw [e]
  refine ⟨?_, hf _⟩
  rcases Nat.mod_two_eq_zero_or_one j with h | h
  · rw [h]
    have := (ha _ hi).1
    rw [show j / 2 * 2 = 0 + j by omega] at this
    exact this
  · rw [h]
    have := (ha _ hi).2
    rw [show j / 2 * 2 + 1 = 0 + j by omega] at this
    exact this
/-- What the sort leaves in memory. -/
theorem sorted_row16 {w0 w : World} {q n : Nat} {l L : List It} {d' : Array It} (os : Array Obj) (hr : Rel w0 w) (hg : w0.heap.size ≤ q) (hgl : q < w.heap.size) (hh : HoldsK clH 2 w q 0 l.toArray) (hs : d'.size = l.toArray.size) (hL : d'.toList = L) :
    Rel w0 (Go.Proofs.sortWorldK clH 2 w q 0 n d' os) ∧ RowAt clH 2 (Go.Proofs.sortWorldK clH 2 w q 0 n d' os) (some ⟨q, 0, none⟩) L ∧ q < (Go.Proofs.sortWorldK clH 2 w q 0 n d' os).heap.size := by
  have hq := Go.Proofs.holdsK_sortWorldK_c clH 2 w q 0 l.toArray d' n os hh hgl hs
  have hsz := Go.Proofs.size_sortWorldK_c clH 2 w q 0 n d' os
  refine ⟨?_, fun i hi => ⟨q, 0, rfl, Nat.lt_of_lt_of_le hgl hsz, fun j hj => ?_⟩, Nat.lt_of_lt_of_le hgl hsz⟩
  · have hz : (putRowK clH 2 (Sort.ahead w n) q 0 d').heap.size = w.heap.size := Sort.size_putRow ..
    have h1 : Rel w0 (putRowK clH 2 (Sort.ahead w n) q 0 d') := by
      refine ⟨hr.1, ⟨hr.2.os, hr.2.tape, hr.2.output, by rw [hz]; exact hr.2.size, fun k hk => ?_⟩⟩
      have : k ≠ q := by omega
      refine Eq.trans ?_ (hr.2.block k hk)
      show (w.heap.modify q _)[k]? = w.heap[k]?
      rw [Array.getElem?_modify, if_neg (Ne.symm this)]
    exact h1.grow os
  · subst hL
    have hi' : i < d'.size := by simpa using hi
    rw [(hq.cell hi' hj).1]
    have e : d'[i]! = d'.toList[i] := by rw [getElem!_pos d' i hi']; simp
    rw [e]
    have hl : j < (clH d'.toList[i]).length := hj
    rw [List.getElem?_eq_getElem hl, getElem!_pos _ j hl]
set_option maxRecDepth 100000 in
set_option maxHeartbeats 4000000 in
theorem lall16 {w : World} {v : Value} {S : Nat → Prop} {m : Int} {L : List It} (hr : Rel w w) (h : LHp w v S m L) :
    Calls Try.prog 27 #[v] w fun e w' => ∃ (A : Option Addr) (c : Nat), e = .returned (.slice A L.length c) ∧ RowAt clH 2 w' A L ∧ (∀ a, A = some a → w.heap.size ≤ a.block ∧ a.block < w'.heap.size) ∧ L.length ≤ c ∧ c ≤ maxLen ∧ Rel w w' := by
  have hen : ∀ args w, (callFunc 37 args).run Try.prog w = .ok (.enter 37 args) w := enters_of Try.func37 (by kernel_rfl) rfl
  have HR := Lib.hid hr
  rcases h with ⟨rfl, _, _, rfl⟩ | ⟨g, b, u, l, rfl, _, hb, ho, _⟩
  · clear hr hen
    go_enter Try.func27, Try.ntmps27
    go_wp2_with (fail)
    go_ret
    exact ⟨none, 0, rfl, RowAt.nil _ _, (fun a ha => by cases ha), Nat.zero_le _, Nat.zero_le _, HR.out⟩
  · obtain ⟨A, c, e, hcm⟩ := hb.row.slice_of
    subst e
    have hA : A = none → c = 0 := by
      rintro rfl
      rcases hb.row.row.2 with ⟨e, _⟩ | ⟨q, cap, cur, e, _⟩
      · injection e
      · injection e with e; cases e
    obtain ⟨⟨k0, k1, k2⟩, _⟩ := hb.box.three
    have HC := Lib.hid (clone16 l A c w hr hA hb.cap (hb.row.at clH_len rfl))
    have HO := Lib.hid ho
    have hcap := hb.cap
    rw [← ho.len]
    by_cases hl : l.length = 0
    · have hl0 : l = [] := List.eq_nil_of_length_eq_zero hl
      subst hl0
      have hL : L = [] := List.eq_nil_of_length_eq_zero ho.len.symm
      subst hL
      have HS := Lib.hid (fun (p : Option Addr) (cap : Nat) (W : World) => show Calls Try.prog 36 #[.slice p 0 cap, .func (.func 37) #[] #[]] W (fun e w' => e = .returned (.tuple #[]) ∧ w' = W) from Go.Proofs.AnyF.slices_SortFunc_none Try.sortItem p cap _ W)
      have HC := Lib.hid (show Calls Try.prog 35 #[.slice A 0 c] w fun e w' => ∃ A2 c2, e = .returned (.slice A2 0 c2) ∧ c2 ≤ maxLen ∧ (∀ a, A2 = some a → w.heap.size ≤ a.block ∧ a.block < w'.heap.size) ∧ Rel w w' from HC.out.mono (by
        rintro e w' ⟨A2, c2, he, ho2, hr2⟩
        obtain ⟨A3, c3, e3, h3⟩ := ho2.slice_of
        injection e3 with e4 _ e5
        subst e4; subst e5
        refine ⟨A2, c2, he, h3, fun a ha => ?_, hr2⟩
        subst ha
        exact World.ownsRow.lt ho2.row a.block rfl))
      clear hr hb ho hl hen hA hcm
      go_enter Try.func27, Try.ntmps27
      go_wp2_with (first | (go_at_call 35; (with_reducible refine HC.out.mono ?_); rintro e w1 ⟨A2, c2, rfl, o1, o2, r1⟩; have R1 := Lib.hid r1; have O1 := Lib.hid o1; have O2 := Lib.hid o2; clear r1 o1 o2) | (go_at_call 36; (with_reducible refine (HS.out _ _ _).mono ?_); rintro e w2 ⟨rfl, rfl⟩))
      go_ret
      exact ⟨A2, c2, rfl, RowAt.nil _ _, O2.out, Nat.zero_le _, O1.out, R1.out⟩
    · have HS := Lib.hid (fun (q c2 : Nat) (W : World) (hw : w.heap.size ≤ q) (hrw : Rel w W) (hown : RowOwn 36 clH 2 W w.heap.size (.slice (some ⟨q, 0, none⟩) l.length c2) l) => show Calls Try.prog 36 #[.slice (some ⟨q, 0, none⟩) l.length c2, .func (.func 37) #[] #[]] W (fun e w' => e = .returned (.tuple #[]) ∧ Rel w w' ∧ RowAt clH 2 w' (some ⟨q, 0, none⟩) L ∧ q < w'.heap.size) from by
        have hlt := (World.ownsRow.lt hown.row q rfl).2
        have hca := fun i (hi : i < l.length) => (show w.heap.size ≤ w.heap.size ∧ (W.cell? ⟨q, i * 2, none⟩ = some (.int .i64 (atI l i).1) ∧ W.cell? ⟨q, i * 2 + 1, none⟩ = some (.int .i64 (atI l i).2)) from ⟨Nat.le_refl _, by
          have e := fun j (hj : j < 2) => flat_at (cl := clH) (k := 2) (fun _ => rfl) l i hi j hj
          have c0 := hown.row.cellAt (i * 2 + 0) (by omega)
          have c1 := hown.row.cellAt (i * 2 + 1) (by omega)
          rw [e 0 (by decide)] at c0
          rw [e 1 (by decide)] at c1
          rw [at_get hi]
          exact ⟨c0, c1⟩⟩)
        have hH := holds16 (fun i hi => (hca i hi).2) (fun j => hown.row.frozenAt j)
        have hcon := Go.Proofs.AnyQ.slices_SortFunc Try.sortItem 2 Try.isAgg36 Try.sizeOf36 clH clH_len clH_one (fun x y : It => Lib.compareInt x.1 y.1) swo16 37 #[] q 0 c2 l.toArray W hen (fun _ _ _ _ x y => cmp16 x y _) hH hlt (by simp; omega)
        have hsz : l.toArray.size = l.length := by simp
        rw [hsz] at hcon
        refine Calls.mono hcon ?_
        rintro e w' ⟨he, d', n, os, hp, hs, rfl⟩
        rw [← hsz] at hp hs
        obtain ⟨s1, s2, s3⟩ := sorted_row16 (n := n) os hrw hw hlt hH hp.1 (sorted16 HO.out hp hs)
        exact ⟨he, s1, s2, s3⟩)
      have HC := Lib.hid (show Calls Try.prog 35 #[.slice A l.length c] w fun e w' => ∃ q c2, e = .returned (.slice (some ⟨q, 0, none⟩) l.length c2) ∧ w.heap.size ≤ q ∧ l.length ≤ c2 ∧ c2 ≤ maxLen ∧ RowOwn 36 clH 2 w' w.heap.size (.slice (some ⟨q, 0, none⟩) l.length c2) l ∧ Rel w w' from HC.out.mono (by
        rintro e w' ⟨A2, c2, he, ho2, hr2⟩
        rcases ho2.row.2 with ⟨_, e2⟩ | ⟨q, cap, cur, e2, hq, _, hn, hc, _⟩
        · exact absurd e2 hl
        · injection e2 with e3 _ e4
          subst e3; subst e4
          exact ⟨q, c2, he, hq, hn, hc, ho2, hr2⟩))
      obtain ⟨n, hn⟩ : ∃ n, l.length = n := ⟨_, rfl⟩
      rw [hn] at HC HS k1 hcap ⊢
      clear hr hb ho hl hen hA hcm hn
      go_enter Try.func27, Try.ntmps27
      go_wp2_with (first | (go_at_call 35; (with_reducible refine HC.out.mono ?_); rintro e w1 ⟨q, c2, rfl, o1, o2, o3, o4, r1⟩; have R1 := Lib.hid r1; have O1 := Lib.hid o1; have O2 := Lib.hid o2; have O3 := Lib.hid o3; have O4 := Lib.hid o4; clear r1 o1 o2 o3 o4) | (go_at_call 36; (with_reducible refine (HS.out _ _ _ O1.out R1.out O4.out).mono ?_); rintro e w2 ⟨rfl, s1, s2, s3⟩; have S1 := Lib.hid s1; have S2 := Lib.hid s2; have S3 := Lib.hid s3; clear s1 s2 s3))
      go_ret
      exact ⟨_, c2, rfl, S2.out, (fun a ha => by injection ha with ha; subst ha; exact ⟨O1.out, S3.out⟩), O2.out, O3.out, S1.out⟩
theorem heapOk16 : HeapOk LHp where
  srt := LHp.srt
  fit := LHp.fit
  len := LHp.len
  lt := LHp.lt
  keep := LHp.keep
  nil := fun _ => .inl ⟨rfl, rfl, rfl, rfl⟩
  new := lnew16
  push := lpush16
  pop := lpop16
  top := ltop16
  change := lchange16
  remove := lremove16
  prio := lprio16
  count := lcount16
  all := lall16
end Go.Proofs.Ytminmcledbfchaa

namespace Go.Proofs.Ytminmcledbfchaa
open Go.RowKit Go.Lib
set_option linter.unusedVariables false
set_option linter.unusedSimpArgs false
set_option maxHeartbeats 400000 in
theorem pk16_as (c n y : Int) (h : Hid (pk c n = y)) (hc : i64 c) (hn : 0 < n) (hn' : n ≤ 9223372036854775807) (w : World) :
    Calls Try.prog 10 #[.int .i64 c, .int .i64 n] w fun e w' => e = .returned (.int .i64 y) ∧ w = w' := by
  obtain ⟨hc0, hc1⟩ := hc
  rw [← h.out]
  by_cases h : c < 0
  all_goals
    go_enter Try.func10, Try.ntmps10
    go_wp2
    all_goals
      go_ret
      exact ⟨ret_int (by unfold pk; split <;> first | rfl | omega), rfl⟩
theorem in16 {n : Int} (h : -1000 ≤ n) (h' : n ≤ 1000) : i64 n := ⟨by omega, by omega⟩
set_option maxRecDepth 100000 in
set_option maxHeartbeats 16000000 in
theorem awake16_any {HP : HpT} (H : HeapOk HP) (w : World) (hr : Rel w w) :
    Calls Try.prog 9 #[] w fun e w' => e = .returned (.bool true) ∧ Rel w w' := by
  have HR := Lib.hid hr
  have K0 := Lib.hid (fun (w1 : World) (hr : Rel w w1) => hnew16 H (w0 := w) w1 hr (most := 3) (in16 (by decide) (by decide)) (by decide) (by decide))
  have K1 := Lib.hid (fun (w1 : World) (v : Value) (S : Nat → Prop) (h : Hq HP w w1 v S 3 []) => hpush16 H h (k := 3) (p := 5) (E := 0) (L' := [(3, 5)]) (in16 (by decide) (by decide)) (in16 (by decide) (by decide)) (by decide) (by decide))
  have K2 := Lib.hid (fun (w1 : World) (v : Value) (S : Nat → Prop) (h : Hq HP w w1 v S 3 [(3, 5)]) => hpush16 H h (k := 1) (p := 7) (E := 0) (L' := [(1, 7), (3, 5)]) (in16 (by decide) (by decide)) (in16 (by decide) (by decide)) (by decide) (by decide))
  have K3 := Lib.hid (fun (w1 : World) (v : Value) (S : Nat → Prop) (h : Hq HP w w1 v S 3 [(1, 7), (3, 5)]) => hpush16 H h (k := 2) (p := 7) (E := 0) (L' := [(1, 7), (2, 7), (3, 5)]) (in16 (by decide) (by decide)) (in16 (by decide) (by decide)) (by decide) (by decide))
  have K4 := Lib.hid (fun (w1 : World) (v : Value) (S : Nat → Prop) (h : Hq HP w w1 v S 3 [(1, 7), (2, 7), (3, 5)]) => hpush16 H h (k := 2) (p := 9) (E := 1) (L' := [(1, 7), (2, 7), (3, 5)]) (in16 (by decide) (by decide)) (in16 (by decide) (by decide)) (by decide) (by decide))
  have K5 := Lib.hid (fun (w1 : World) (v : Value) (S : Nat → Prop) (h : Hq HP w w1 v S 3 [(1, 7), (2, 7), (3, 5)]) => hpush16 H h (k := 4) (p := 9) (E := 50) (L' := [(1, 7), (2, 7), (3, 5)]) (in16 (by decide) (by decide)) (in16 (by decide) (by decide)) (by decide) (by decide))
  have K6 := Lib.hid (fun (w1 : World) (v : Value) (S : Nat → Prop) (h : Hq HP w w1 v S 3 [(1, 7), (2, 7), (3, 5)]) => hpop16 H h (x := 1) (y := 7) (b := true) (L' := [(2, 7), (3, 5)]) (by decide) (by decide) (by decide))
  have K7 := Lib.hid (fun (w1 : World) (v : Value) (S : Nat → Prop) (h : Hq HP w w1 v S 3 [(2, 7), (3, 5)]) => htop16 H h (x := 2) (y := 7) (b := true) (by decide) (by decide))
  have K8 := Lib.hid (fun (w1 : World) (v : Value) (S : Nat → Prop) (h : Hq HP w w1 v S 3 [(2, 7), (3, 5)]) => hprio16 H h (k := 3) (n := 5) (b := true) (in16 (by decide) (by decide)) (by decide) (by decide))
  have K9 := Lib.hid (fun (w1 : World) (v : Value) (S : Nat → Prop) (h : Hq HP w w1 v S 3 [(2, 7), (3, 5)]) => hlen16 H h (n := 2) (by decide))
  have KA := Lib.hid (fun (w1 : World) (v : Value) (S : Nat → Prop) (h : Hq HP w w1 v S 3 [(2, 7), (3, 5)]) => hchg16 H h (k := 3) (p := 8) (b := true) (L' := [(2, 7), (3, 8)]) (in16 (by decide) (by decide)) (in16 (by decide) (by decide)) (by decide) (by decide))
  have KB := Lib.hid (fun (w1 : World) (v : Value) (S : Nat → Prop) (h : Hq HP w w1 v S 3 [(2, 7), (3, 8)]) => hrem16 H h (k := 2) (b := true) (L' := [(3, 8)]) (in16 (by decide) (by decide)) (by decide) (by decide))
  have KC := Lib.hid (fun (w1 : World) (v : Value) (S : Nat → Prop) (h : Hq HP w w1 v S 3 [(3, 8)]) => hrem16 H h (k := 2) (b := false) (L' := [(3, 8)]) (in16 (by decide) (by decide)) (by decide) (by decide))
  have KD := Lib.hid (fun (w1 : World) (hr : Rel w1 w1) => hnil16 H w1 hr (most := 0) (in16 (by decide) (by decide)) (by decide))
  have KE := Lib.hid (fun (w1 : World) (v : Value) (S : Nat → Prop) (h : Hq HP w w1 v S 3 [(3, 8)]) => hall16 H h (n := 1) (by decide))
  have HH := Lib.hid H
  clear H hr
  go_enter Try.func9, Try.ntmps9
  go_upto_region 2 with (go_at_call 11; (with_reducible refine (K0.out _ HR.out).mono ?_); rintro e w1 ⟨g, S0, rfl, h1, _, _⟩)
  obtain ⟨v, hv⟩ : ∃ v, Value.pointer (some ⟨g, 0, none⟩) = v := ⟨_, rfl⟩
  rw [hv] at h1
  try rw [hv]
  clear hv
  go_upto_region 3 with (go_at_call 13; (with_reducible refine (K1.out _ _ _ h1.out).mono ?_); rintro e w2 ⟨S1, rfl, h2, _⟩)
  go_upto_region 4 with (go_at_call 13; (with_reducible refine (K2.out _ _ _ h2.out).mono ?_); rintro e w3 ⟨S2, rfl, h3, _⟩)
  go_upto_region 5 with (go_at_call 13; (with_reducible refine (K3.out _ _ _ h3.out).mono ?_); rintro e w4 ⟨S3, rfl, h4, _⟩)
  go_upto_region 6 with (go_at_call 13; (with_reducible refine (K4.out _ _ _ h4.out).mono ?_); rintro e w5 ⟨S4, rfl, h5, _⟩)
  go_upto_region 7 with (go_at_call 13; (with_reducible refine (K5.out _ _ _ h5.out).mono ?_); rintro e w6 ⟨S5, rfl, h6, _⟩)
  clear h1 h2 h3 h4 h5 K0 K1 K2 K3 K4 K5 HR
  go_upto_region 8 with (go_at_call 15; (with_reducible refine (K6.out _ _ _ h6.out).mono ?_); rintro e w7 ⟨S6, rfl, h7, _⟩)
  have BX := Lib.hid (Bx.new HH.out h7.out 36 #[.int .i64 1, .int .i64 7])
  have h8 := Lib.hid (Hq.to HH.out h7.out (h7.out.rel.self.alloc (.cells #[.int .i64 1, .int .i64 7] 36)))
  obtain ⟨W8, hW8⟩ : ∃ W, w7.alloc (.cells #[.int .i64 1, .int .i64 7] 36) = W := ⟨_, rfl⟩
  obtain ⟨gx, hgx⟩ : ∃ g, w7.heap.size = g := ⟨_, rfl⟩
  rw [hW8] at BX h8
  rw [hgx] at BX
  try rw [hW8]
  try rw [hgx]
  clear hW8 hgx h7 h6 K6
  go_upto_region 9 with (go_at_call 23; (with_reducible refine (K7.out _ _ _ h8.out).mono ?_); rintro e w9 ⟨rfl, r9⟩)
  have h9 := Lib.hid (Hq.to HH.out h8.out r9.out)
  have BX9 := Lib.hid (BX.out.rel r9.out)
  have BY := Lib.hid (Bx.new HH.out h9.out 36 #[.int .i64 2, .int .i64 7])
  have hA := Lib.hid (Hq.to HH.out h9.out (h9.out.rel.self.alloc (.cells #[.int .i64 2, .int .i64 7] 36)))
  have BXA := Lib.hid (BX9.out.rel (h9.out.rel.self.alloc (.cells #[.int .i64 2, .int .i64 7] 36)))
  obtain ⟨WA, hWA⟩ : ∃ W, w9.alloc (.cells #[.int .i64 2, .int .i64 7] 36) = W := ⟨_, rfl⟩
  obtain ⟨gy, hgy⟩ : ∃ g, w9.heap.size = g := ⟨_, rfl⟩
  rw [hWA] at BY hA BXA
  rw [hgy] at BY
  try rw [hWA]
  try rw [hgy]
  clear hWA hgy h8 h9 r9 K7 BX BX9
  go_upto_region 10 with (go_at_call 21; (with_reducible refine (K8.out _ _ _ hA.out).mono ?_); rintro e wB ⟨rfl, rB⟩)
  have hB := Lib.hid (Hq.to HH.out hA.out rB.out)
  have BXB := Lib.hid (BXA.out.rel rB.out)
  have BYB := Lib.hid (BY.out.rel rB.out)
  clear hA BXA BY rB K8
  obtain ⟨⟨x0, x1⟩, _⟩ := BXB.out.1.two
  obtain ⟨⟨y0, y1⟩, _⟩ := BYB.out.1.two
  go_wp2_with (first
    | (go_at_call 25; (with_reducible refine (K9.out _ _ _ hB.out).mono ?_); rintro e wC ⟨rfl, rC⟩; have hC := Lib.hid (Hq.to HH.out hB.out rC.out))
    | (go_at_call 17; (with_reducible refine (KA.out _ _ _ hC.out).mono ?_); rintro e wD ⟨SD, rfl, hD, _⟩)
    | (go_at_call 19; (with_reducible refine (KB.out _ _ _ hD.out).mono ?_); rintro e wE ⟨SE, rfl, hE, _⟩)
    | (go_at_call 19; (with_reducible refine (KC.out _ _ _ hE.out).mono ?_); rintro e wF ⟨SF, rfl, hF, _⟩)
    | (go_at_call 11; (with_reducible refine (KD.out _ hF.out.rel.self).mono ?_); rintro e wG ⟨rfl, rG⟩; have hG := Lib.hid (Hq.to HH.out hF.out rG.out))
    | (go_at_call 27; (with_reducible refine (KE.out _ _ _ hG.out).mono ?_); rintro e wH ⟨A, c, rfl, _, _, rH⟩))
  go_ret
  exact ⟨rfl, hG.out.rel.trans rH.out⟩
end Go.Proofs.Ytminmcledbfchaa

namespace Go.Proofs.Ytminmcledbfchaa
open Go.RowKit Go.ChangeShapes Go.WideShapes
open Go.Lib
set_option linter.unusedVariables false
set_option linter.unusedSimpArgs false
section
variable {H : Type} {enc : TypeId × Value → H} {w : World} {base : Nat} {held : Bool}
theorem wf64K {a : Int} (h : (Lit.int .i64 a).wf = true) : -9223372036854775808 ≤ a ∧ a ≤ 9223372036854775807 := by
  have := bounds_i64 h; omega
set_option maxRecDepth 100000 in
theorem pair_open {fuel : Nat} {cs : List Value} {x : DataW H × List MemPlace} (h : DataW.trod enc Try.prog w base (fun _ => true) held fuel 65 cs = some x) : ∃ a b : Int, cs = [.int .i64 a, .int .i64 b] ∧ (Lit.int .i64 a).wf = true ∧ (Lit.int .i64 b).wf = true := by
  obtain ⟨xs, m, rfl, _, hl, hxl, hi⟩ := DataW.trod_array Try.underlying65 h
  have c2 : Try.prog.cellsOf 65 = 2 := by kernel_rfl
  have c1 : Try.prog.cellsOf 3 = 1 := by kernel_rfl
  rw [c2] at hl
  match cs, hl with
  | [u, v], _ =>
    have h0 := hi 0 (by omega)
    have h1 := hi 1 (by omega)
    rw [c1] at h0 h1
    rw [List.getElem?_eq_getElem (by omega)] at h0 h1
    obtain ⟨a, ha, _, wa⟩ := DataW.trod_int Try.underlying3 h0
    obtain ⟨b, hb, _, wb⟩ := DataW.trod_int Try.underlying3 h1
    simp at ha hb
    exact ⟨a, b, by rw [ha, hb], wa, wb⟩
set_option maxRecDepth 100000 in
theorem pairs_open {fuel : Nat} {A : Option Addr} {len cap : Nat} {x : DataW H × List MemPlace} (h : DataW.trod enc Try.prog w base (fun _ => true) held fuel 49 [.slice A len cap] = some x) : ∃ zs, PairsIn w A len zs := by
  rcases Go.Deep.open_slice Try.underlying49 h with ⟨hcs, _⟩ | ⟨a, l, c, m, n, D, Pl, hcs, _, hl, hm, hmm, _, hx⟩
  · simp only [List.cons.injEq, Value.slice.injEq, and_true] at hcs
    obtain ⟨rfl, rfl, rfl⟩ := hcs
    exact ⟨[], rfl, Nat.zero_le _, fun z hz => (by cases hz), fun i hi => absurd hi (by simp)⟩
  · simp only [List.cons.injEq, Value.slice.injEq, and_true] at hcs
    obtain ⟨rfl, rfl, rfl⟩ := hcs
    simp only [if_true] at hmm
    have c2 : Try.prog.cellsOf 65 = 2 := by kernel_rfl
    rw [c2] at hx
    obtain ⟨f, hf⟩ := Go.Deep.choose_lt (α := Int × Int) (n := len) (p := fun i q => w.cell? (a.add (i * 2)) = some (.int .i64 q.1) ∧ w.cell? (a.add (i * 2 + 1)) = some (.int .i64 q.2) ∧ (Lit.int .i64 q.1).wf = true ∧ (Lit.int .i64 q.2).wf = true) (fun i hi => by
      obtain ⟨cs', h1, h2⟩ := hx i (by omega)
      obtain ⟨u, v, rfl, wu, wv⟩ := pair_open h2
      obtain ⟨_, _, hcell⟩ := World.cells?_some h1
      have e0 := hcell 0 (by omega)
      have e1 := hcell 1 (by omega)
      rw [Go.Deep.add_add] at e0 e1
      exact ⟨(u, v), by simpa using e0, by simpa using e1, wu, wv⟩)
    have hlen : ((List.range len).map f).length = len := by rw [List.length_map, List.length_range]
    refine ⟨(List.range len).map f, hlen, by unfold maxLen at hm; omega, fun z hz => ?_, fun i hi => ?_⟩
    · obtain ⟨r, hr, rfl⟩ := List.mem_map.1 hz
      have := hf r (List.mem_range.1 hr)
      exact ⟨wf64K this.2.2.1, wf64K this.2.2.2⟩
    · rw [hlen] at hi
      obtain ⟨e0, e1, _, _⟩ := hf i hi
      have eg : ((List.range len).map f)[i]'(by rw [hlen]; exact hi) = f i := by rw [List.getElem_map, List.getElem_range]
      refine ⟨a, rfl, by have := blk_of_cell e0; rwa [block_add] at this, ?_, ?_⟩
      · rw [eg]; exact e0
      · rw [eg]; exact e1
end
end Go.Proofs.Ytminmcledbfchaa
