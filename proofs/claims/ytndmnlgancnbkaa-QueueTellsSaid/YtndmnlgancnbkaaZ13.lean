/- Layer 16, the landed code: all of them, by their keys. -/
import Derived.Test.YtndmnlgancnbkaaZL
import Derived.Test.YtndmnlgancnbkaaZ00
import Derived.Test.YtndmnlgancnbkaaZ01
import Derived.Test.YtndmnlgancnbkaaZ02
import Derived.Test.YtndmnlgancnbkaaZ03
import Derived.Test.YtndmnlgancnbkaaZ05
import Derived.Test.YtndmnlgancnbkaaZ11
import Derived.Test.YtndmnlgancnbkaaZ12
namespace Go.Proofs.Ytndmnlgancnbkaa
open Go.RowKit Go.Lib Go.Sort
set_option linter.unusedVariables false
set_option linter.unusedSimpArgs false
set_option maxRecDepth 100000 in
set_option maxHeartbeats 4000000 in
/-- slices.Clone. -/
theorem clone16 (b : List It) (A : Option Addr) (c : Nat) (w : World) (hr : Rel w w) (hA : A = none → c = 0) (hlen : b.length ≤ 1000) (hat : RowAt clH 2 w A b) :
    Calls Try.prog 52 #[.slice A b.length c] w fun e w' => ∃ A2 c2, e = .returned (.slice A2 b.length c2) ∧ RowOwn 64 clH 2 w' w.heap.size (.slice A2 b.length c2) b ∧ Rel w w' := by
  have hq := fun (w : World) (a : Option Addr) (n c : Nat) => run_eql_slice_nil (P := Try.prog) w 29 64 a n c 0 0 Try.underlying29
  obtain ⟨i0, hi0, hz⟩ := Option.map_eq_some_iff.1 item_info
  simp only [Prod.mk.injEq] at hz
  obtain ⟨hz0, hz1, hz2⟩ := hz
  have HB := Lib.hid hat
  have HA := Lib.hid hA
  have HR := Lib.hid hr
  clear hat hA hr
  cases A with
  | none =>
    obtain rfl := row_gone15 HB.out
    obtain rfl := HA.out rfl
    go_enter Try.func52, Try.ntmps52
    go_wp2_with (fail)
    go_ret
    exact ⟨none, 0, rfl, RowOwn.nil _ _ _, HR.out⟩
  | some p =>
    have HRow := Lib.hid (show RowOwn 64 clH 2 (w.alloc (.cells #[] 64)) w.heap.size (.slice (some ⟨w.heap.size, 0, none⟩) 0 0) [] from World.ownsRow_made w #[] 0 (Nat.le_refl _) (Nat.zero_le _) (by simp))
    have HB2 := Lib.hid (HB.out.rel (HR.out.alloc (.cells #[] 64)))
    go_enter Try.func52, Try.ntmps52
    go_wp2_with (at_builtin; (refine wpList_onto15 64 29 i0 (.agg #[.int .i64 0, .int .i64 0]) 16 Try.underlying29 hi0 hz0 hz1 hz2 rfl (by decide) clH_len clH_one rfl _ _ rfl w.heap.size (.slice (some ⟨w.heap.size, 0, none⟩) 0 0) [] rfl HRow.out (some p) b.length c b rfl rfl HB2.out (fun e => by cases e) (by rw [List.length_nil]; omega) (by rw [List.length_nil]; unfold maxLen; omega) (by rw [World.size_alloc]; omega) ?_); intro v2 w2 own2 gr2; obtain ⟨A2, c2, rfl, _⟩ := own2.slice_of; have O2 := Lib.hid own2; have G2 := Lib.hid gr2; clear own2 gr2)
    go_ret
    exact ⟨A2, c2, rfl, O2.out, (HR.out.alloc _).grown G2.out (fun q hq => by have h : w.heap.size = q := (by simpa [Value.ownBlock] using hq); omega)⟩
set_option maxHeartbeats 1000000 in
/-- The closure of All: two blocks are laid. -/
theorem cmp16 (x y : It) (W : World) : Calls Try.prog 54 #[.agg #[.int .i64 x.1, .int .i64 x.2], .agg #[.int .i64 y.1, .int .i64 y.2]] W fun e w' => e = .returned (.int .i64 (Lib.compareInt x.1 y.1)) ∧ ∃ q os', w' = grow (W.drewN q) os' := by
  have hcon := fun W' => Try.cmp_Compare_int x.1 y.1 W'
  generalize Lib.compareInt x.1 y.1 = r at hcon ⊢
  go_enter Try.func54, Try.ntmps54
  go_wp2_with (go_at_call 55; refine (hcon _).mono ?_; rintro e w' ⟨rfl, rfl⟩)
  go_ret
  exact ⟨rfl, 0, _, by rw [alloc_eq_grow, alloc_eq_grow, grow_grow]; rfl⟩
theorem lt16 (x y : It) : Go.Proofs.ltOf (fun x y : It => Lib.compareInt x.1 y.1) x y = decide (x.1 < y.1) := by
  unfold Go.Proofs.ltOf Lib.compareInt
  by_cases h1 : x.1 < y.1
  · simp [h1]
  · by_cases h2 : y.1 < x.1 <;> simp [h1, h2]
theorem swo16 : SWO (Go.Proofs.ltOf fun x y : It => Lib.compareInt x.1 y.1) where
  irrefl x := by rw [lt16]; simp
  trans x y z h1 h2 := by rw [lt16] at *; simp at *; omega
  ntrans x y z h1 h2 := by rw [lt16] at *; simp at *; omega
/-- What a sort by the keys leaves of a row: the items by their keys. -/
theorem sorted16 {l L : List It} (h : Rowed l L) {d' : Array It} (hp : PermIn 0 l.toArray.size l.toArray d') (hs : SortedIn (Go.Proofs.ltOf fun x y : It => Lib.compareInt x.1 y.1) 0 l.toArray.size d') : d'.toList = L := by
  have hsz : d'.size = l.length := by rw [hp.1]; simp
  have hperm : d'.toList.Perm l := by
    have := hp.2.2
    rw [show d'.extract 0 l.toArray.size = d' by rw [show l.toArray.size = d'.size by rw [hp.1]]; exact Array.extract_size] at this
    rw [show l.toArray.extract 0 l.toArray.size = l.toArray by exact Array.extract_size] at this
    exact this
  have hat : ∀ i, i < l.length → d'[i]! = d'.toList.getD i (0, 0) := fun i hi => by
    rw [getElem!_pos d' i (by omega), List.getD_eq_getElem?_getD, List.getElem?_eq_getElem (by rw [Array.length_toList]; omega)]
    simp
  have hsrt : Srt d'.toList := by
    refine List.pairwise_iff_getElem.2 fun i j hi hj hij => ?_
    rw [Array.length_toList, hsz] at hi hj
    have h1 := hs i j (Nat.zero_le _) hij (by simpa using hj)
    rw [lt16, decide_eq_false_iff_not] at h1
    have e1 : d'[i]! = d'.toList[i]'(by rw [Array.length_toList]; omega) := by rw [getElem!_pos d' i (by omega)]; simp
    have e2 : d'[j]! = d'.toList[j]'(by rw [Array.length_toList]; omega) := by rw [getElem!_pos d' j (by omega)]; simp
    rw [e1, e2] at h1
    have hpw : l.Pairwise fun a b : It => a.1 ≠ b.1 := List.pairwise_iff_getElem.2 fun a b ha hb hab e => by
      have := h.one a b ha hb (by rw [at_get ha, at_get hb]; exact e)
      omega
    have hpd : d'.toList.Pairwise fun a b : It => a.1 ≠ b.1 := (hperm.pairwise_iff (fun {_ _} q => Ne.symm q)).2 hpw
    have hne := List.pairwise_iff_getElem.1 hpd i j (by rw [Array.length_toList]; omega) (by rw [Array.length_toList]; omega) hij
    omega
  exact srt_ext hsrt h.srt fun z => hperm.mem_iff.trans (h.mem z)
theorem holds16 {w : World} {q : Nat} {l : List It} (ha : ∀ i, i < l.length → w.cell? ⟨q, i * 2, none⟩ = some (.int .i64 (atI l i).1) ∧ w.cell? ⟨q, i * 2 + 1, none⟩ = some (.int .i64 (atI l i).2)) (hf : ∀ j, w.frozen? ⟨q, j, none⟩ = false) : HoldsK clH 2 w q 0 l.toArray := by
  intro j hj
  rw [size_flatK] at hj
  have hi : j / 2 < l.length := by simp at hj; omega
  rw [get_flatK _ _ _ _ hj]
  have e : l.toArray[j / 2]! = atI l (j / 2) := by rw [getElem!_pos l.toArray (j / 2) (by simpa using hi), at_get hi]; simp
  rw [e]
  refine ⟨?_, hf _⟩
  rcases Nat.mod_two_eq_zero_or_one j with h | h
  · rw [h]
    have := (ha _ hi).1
    rw [show j / 2 * 2 = 0 + j by omega] at this
    exact this
  · rw [h]
    have := (ha _ hi).2
    rw [show j / 2 * 2 + 1 = 0 + j by omega] at this
    exact this
/-- What the sort leaves in memory. -/
theorem sorted_row16 {w0 w : World} {q n : Nat} {l L : List It} {d' : Array It} (os : Array Obj) (hr : Rel w0 w) (hg : w0.heap.size ≤ q) (hgl : q < w.heap.size) (hh : HoldsK clH 2 w q 0 l.toArray) (hs : d'.size = l.toArray.size) (hL : d'.toList = L) :
    Rel w0 (Go.Proofs.sortWorldK clH 2 w q 0 n d' os) ∧ RowAt clH 2 (Go.Proofs.sortWorldK clH 2 w q 0 n d' os) (some ⟨q, 0, none⟩) L ∧ q < (Go.Proofs.sortWorldK clH 2 w q 0 n d' os).heap.size := by
  have hq := Go.Proofs.holdsK_sortWorldK_c clH 2 w q 0 l.toArray d' n os hh hgl hs
  have hsz := Go.Proofs.size_sortWorldK_c clH 2 w q 0 n d' os
  refine ⟨?_, fun i hi => ⟨q, 0, rfl, Nat.lt_of_lt_of_le hgl hsz, fun j hj => ?_⟩, Nat.lt_of_lt_of_le hgl hsz⟩
  · have hz : (putRowK clH 2 (Sort.ahead w n) q 0 d').heap.size = w.heap.size := Sort.size_putRow ..
    have h1 : Rel w0 (putRowK clH 2 (Sort.ahead w n) q 0 d') := by
      refine ⟨hr.1, ⟨hr.2.os, hr.2.tape, hr.2.output, by rw [hz]; exact hr.2.size, fun k hk => ?_⟩⟩
      have : k ≠ q := by omega
      refine Eq.trans ?_ (hr.2.block k hk)
      show (w.heap.modify q _)[k]? = w.heap[k]?
      rw [Array.getElem?_modify, if_neg (Ne.symm this)]
    exact h1.grow os
  · subst hL
    have hi' : i < d'.size := by simpa using hi
    rw [(hq.cell hi' hj).1]
    have e : d'[i]! = d'.toList[i] := by rw [getElem!_pos d' i hi']; simp
    rw [e]
    have hl : j < (clH d'.toList[i]).length := hj
    rw [List.getElem?_eq_getElem hl, getElem!_pos _ j hl]
set_option maxRecDepth 100000 in
set_option maxHeartbeats 4000000 in
theorem lall16 {w : World} {v : Value} {S : Nat → Prop} {m : Int} {L : List It} (hr : Rel w w) (h : LHp w v S m L) :
    Calls Try.prog 40 #[v] w fun e w' => ∃ (A : Option Addr) (c : Nat), e = .returned (.slice A L.length c) ∧ RowAt clH 2 w' A L ∧ (∀ a, A = some a → w.heap.size ≤ a.block ∧ a.block < w'.heap.size) ∧ L.length ≤ c ∧ c ≤ maxLen ∧ Rel w w' := by
  have hen : ∀ args w, (callFunc 54 args).run Try.prog w = .ok (.enter 54 args) w := enters_of Try.func54 (by kernel_rfl) rfl
  have HR := Lib.hid hr
  rcases h with ⟨rfl, _, _, rfl⟩ | ⟨g, b, u, l, rfl, _, hb, ho, _⟩
  · clear hr hen
    go_enter Try.func40, Try.ntmps40
    go_wp2_with (fail)
    go_ret
    exact ⟨none, 0, rfl, RowAt.nil _ _, (fun a ha => by cases ha), Nat.zero_le _, Nat.zero_le _, HR.out⟩
  · obtain ⟨A, c, e, hcm⟩ := hb.row.slice_of
    subst e
    have hA : A = none → c = 0 := by
      rintro rfl
      rcases hb.row.row.2 with ⟨e, _⟩ | ⟨q, cap, cur, e, _⟩
      · injection e
      · injection e with e; cases e
    obtain ⟨⟨k0, k1, k2⟩, _⟩ := hb.box.three
    have HC := Lib.hid (clone16 l A c w hr hA hb.cap (hb.row.at clH_len rfl))
    have HO := Lib.hid ho
    have hcap := hb.cap
    rw [← ho.len]
    by_cases hl : l.length = 0
    · have hl0 : l = [] := List.eq_nil_of_length_eq_zero hl
      subst hl0
      have hL : L = [] := List.eq_nil_of_length_eq_zero ho.len.symm
      subst hL
      have HS := Lib.hid (fun (p : Option Addr) (cap : Nat) (W : World) => show Calls Try.prog 53 #[.slice p 0 cap, .func (.func 54) #[] #[]] W (fun e w' => e = .returned (.tuple #[]) ∧ w' = W) from Go.Proofs.AnyF.slices_SortFunc_none Try.sortItem p cap _ W)
      have HC := Lib.hid (show Calls Try.prog 52 #[.slice A 0 c] w fun e w' => ∃ A2 c2, e = .returned (.slice A2 0 c2) ∧ c2 ≤ maxLen ∧ (∀ a, A2 = some a → w.heap.size ≤ a.block ∧ a.block < w'.heap.size) ∧ Rel w w' from HC.out.mono (by
        rintro e w' ⟨A2, c2, he, ho2, hr2⟩
        obtain ⟨A3, c3, e3, h3⟩ := ho2.slice_of
        injection e3 with e4 _ e5
        subst e4; subst e5
        refine ⟨A2, c2, he, h3, fun a ha => ?_, hr2⟩
        subst ha
        exact World.ownsRow.lt ho2.row a.block rfl))
      clear hr hb ho hl hen hA hcm
      go_enter Try.func40, Try.ntmps40
      go_wp2_with (first | (go_at_call 52; (with_reducible refine HC.out.mono ?_); rintro e w1 ⟨A2, c2, rfl, o1, o2, r1⟩; have R1 := Lib.hid r1; have O1 := Lib.hid o1; have O2 := Lib.hid o2; clear r1 o1 o2) | (go_at_call 53; (with_reducible refine (HS.out _ _ _).mono ?_); rintro e w2 ⟨rfl, rfl⟩))
      go_ret
      exact ⟨A2, c2, rfl, RowAt.nil _ _, O2.out, Nat.zero_le _, O1.out, R1.out⟩
    · have HS := Lib.hid (fun (q c2 : Nat) (W : World) (hw : w.heap.size ≤ q) (hrw : Rel w W) (hown : RowOwn 64 clH 2 W w.heap.size (.slice (some ⟨q, 0, none⟩) l.length c2) l) => show Calls Try.prog 53 #[.slice (some ⟨q, 0, none⟩) l.length c2, .func (.func 54) #[] #[]] W (fun e w' => e = .returned (.tuple #[]) ∧ Rel w w' ∧ RowAt clH 2 w' (some ⟨q, 0, none⟩) L ∧ q < w'.heap.size) from by
        have hlt := (World.ownsRow.lt hown.row q rfl).2
        have hca := fun i (hi : i < l.length) => (show w.heap.size ≤ w.heap.size ∧ (W.cell? ⟨q, i * 2, none⟩ = some (.int .i64 (atI l i).1) ∧ W.cell? ⟨q, i * 2 + 1, none⟩ = some (.int .i64 (atI l i).2)) from ⟨Nat.le_refl _, by
          have e := fun j (hj : j < 2) => flat_at (cl := clH) (k := 2) (fun _ => rfl) l i hi j hj
          have c0 := hown.row.cellAt (i * 2 + 0) (by omega)
          have c1 := hown.row.cellAt (i * 2 + 1) (by omega)
          rw [e 0 (by decide)] at c0
          rw [e 1 (by decide)] at c1
          rw [at_get hi]
          exact ⟨c0, c1⟩⟩)
        have hH := holds16 (fun i hi => (hca i hi).2) (fun j => hown.row.frozenAt j)
        have hcon := Go.Proofs.AnyQ.slices_SortFunc Try.sortItem 2 Try.isAgg64 Try.sizeOf64 clH clH_len clH_one (fun x y : It => Lib.compareInt x.1 y.1) swo16 54 #[] q 0 c2 l.toArray W hen (fun _ _ _ _ x y => cmp16 x y _) hH hlt (by simp; omega)
        have hsz : l.toArray.size = l.length := by simp
        rw [hsz] at hcon
        refine Calls.mono hcon ?_
        rintro e w' ⟨he, d', n, os, hp, hs, rfl⟩
        rw [← hsz] at hp hs
        obtain ⟨s1, s2, s3⟩ := sorted_row16 (n := n) os hrw hw hlt hH hp.1 (sorted16 HO.out hp hs)
        exact ⟨he, s1, s2, s3⟩)
      have HC := Lib.hid (show Calls Try.prog 52 #[.slice A l.length c] w fun e w' => ∃ q c2, e = .returned (.slice (some ⟨q, 0, none⟩) l.length c2) ∧ w.heap.size ≤ q ∧ l.length ≤ c2 ∧ c2 ≤ maxLen ∧ RowOwn 64 clH 2 w' w.heap.size (.slice (some ⟨q, 0, none⟩) l.length c2) l ∧ Rel w w' from HC.out.mono (by
        rintro e w' ⟨A2, c2, he, ho2, hr2⟩
        rcases ho2.row.2 with ⟨_, e2⟩ | ⟨q, cap, cur, e2, hq, _, hn, hc, _⟩
        · exact absurd e2 hl
        · injection e2 with e3 _ e4
          subst e3; subst e4
          exact ⟨q, c2, he, hq, hn, hc, ho2, hr2⟩))
      obtain ⟨n, hn⟩ : ∃ n, l.length = n := ⟨_, rfl⟩
      rw [hn] at HC HS k1 hcap ⊢
      clear hr hb ho hl hen hA hcm hn
      go_enter Try.func40, Try.ntmps40
      go_wp2_with (first | (go_at_call 52; (with_reducible refine HC.out.mono ?_); rintro e w1 ⟨q, c2, rfl, o1, o2, o3, o4, r1⟩; have R1 := Lib.hid r1; have O1 := Lib.hid o1; have O2 := Lib.hid o2; have O3 := Lib.hid o3; have O4 := Lib.hid o4; clear r1 o1 o2 o3 o4) | (go_at_call 53; (with_reducible refine (HS.out _ _ _ O1.out R1.out O4.out).mono ?_); rintro e w2 ⟨rfl, s1, s2, s3⟩; have S1 := Lib.hid s1; have S2 := Lib.hid s2; have S3 := Lib.hid s3; clear s1 s2 s3))
      go_ret
      exact ⟨_, c2, rfl, S2.out, (fun a ha => by injection ha with ha; subst ha; exact ⟨O1.out, S3.out⟩), O2.out, O3.out, S1.out⟩
theorem heapOk16 : HeapOk LHp where
  srt := LHp.srt
  fit := LHp.fit
  len := LHp.len
  lt := LHp.lt
  keep := LHp.keep
  nil := fun _ => .inl ⟨rfl, rfl, rfl, rfl⟩
  new := lnew16
  push := lpush16
  pop := lpop16
  top := ltop16
  change := lchange16
  remove := lremove16
  prio := lprio16
  count := lcount16
  all := lall16
end Go.Proofs.Ytndmnlgancnbkaa
