/- Plain mathematics of layer 16: items by their keys, rising; the most urgent one. No program in this text; Plain mathematics of layer 16: of raw items, a heap's; popped one behind the other. No program in this text; A drawn region walked by hand: what is taken first, under a condition that the region keeps; what alone may come up; Layer 16: the law's Made: of raw items, a heap. -/
import Derived.Test.YtminmcledbfchaaZL
import Derived.Test.YtminmcledbfchaaZ00
import Derived.Test.YtminmcledbfchaaZ01
import Derived.Test.YtminmcledbfchaaZ06
import Derived.Test.YtminmcledbfchaaZ08
namespace Go.Proofs.Ytminmcledbfchaa
open Go.Lib
set_option linter.unusedVariables false
set_option linter.unusedSimpArgs false
theorem push_srt {m : Int} {L : List It} (h : Srt L) (k p : Int) : Srt (pushL m L k p) := by
  unfold pushL
  split
  · rename_i he
    refine ins_srt h ?_
    unfold pushE at he
    cases hh : hasH L k with
    | false => rfl
    | true => rw [hh] at he; simp at he
  · exact h
end Go.Proofs.Ytminmcledbfchaa

namespace Go.Proofs.Ytminmcledbfchaa
open Go.Lib
set_option linter.unusedVariables false
set_option linter.unusedSimpArgs false
def stepMade (L : List It) (x : Int × Int) : List It := pushL 1000 L (pk x.1 50) (pk x.2 9)
def madeN (raw : List (Int × Int)) (n : Nat) : List It := (raw.take n).foldl stepMade []
def madeL (raw : List (Int × Int)) : List It := madeN raw 30
theorem made_next {raw : List (Int × Int)} {n : Nat} (h : n < raw.length) : madeN raw (n + 1) = pushL 1000 (madeN raw n) (pk raw[n].1 50) (pk raw[n].2 9) := by
  unfold madeN
  rw [List.take_succ_eq_append_getElem h, List.foldl_append]
  rfl
theorem made_full {raw : List (Int × Int)} {n : Nat} (h : raw.length ≤ n) : madeN raw n = madeN raw raw.length := by
  unfold madeN
  rw [List.take_of_length_le h, List.take_length]
theorem made_min (raw : List (Int × Int)) : madeL raw = madeN raw (min raw.length 30) := by
  unfold madeL
  by_cases h : raw.length ≤ 30
  · rw [made_full h, Nat.min_eq_left h]
  · rw [Nat.min_eq_right (by omega)]
theorem push_len (m : Int) (L : List It) (k p : Int) : L.length ≤ (pushL m L k p).length ∧ (pushL m L k p).length ≤ L.length + 1 := by
  unfold pushL
  split
  · rw [ins_len]; omega
  · omega
theorem made_len (raw : List (Int × Int)) : ∀ n, n ≤ raw.length → (madeN raw n).length ≤ n ∧ (0 < n → 0 < (madeN raw n).length) ∧ Srt (madeN raw n) := by
  intro n
  induction n with
  | zero => intro _; exact ⟨Nat.le_refl _, fun h => absurd h (Nat.lt_irrefl _), srt_nil⟩
  | succ n ih =>
    intro h
    obtain ⟨h1, h2, h3⟩ := ih (by omega)
    rw [made_next (by omega)]
    have hp := push_len 1000 (madeN raw n) (pk raw[n].1 50) (pk raw[n].2 9)
    refine ⟨by omega, fun _ => ?_, push_srt h3 _ _⟩
    by_cases h0 : n = 0
    · subst h0
      show 0 < (pushL 1000 [] (pk raw[0].1 50) (pk raw[0].2 9)).length
      have e : pushE 1000 [] (pk raw[0].1 50) = 0 := rfl
      unfold pushL
      rw [if_pos e]
      show 0 < 1
      omega
    · have := h2 (by omega); omega
theorem madeL_all (raw : List (Int × Int)) : (madeL raw).length ≤ 30 ∧ ((madeL raw).length = 0 ↔ raw.length = 0) ∧ Srt (madeL raw) := by
  rw [made_min]
  obtain ⟨h1, h2, h3⟩ := made_len raw (min raw.length 30) (by omega)
  refine ⟨by omega, ⟨fun e => ?_, fun e => by omega⟩, h3⟩
  by_cases h0 : raw.length = 0
  · exact h0
  · have := h2 (by omega); omega
end Go.Proofs.Ytminmcledbfchaa

namespace Go.Proofs.Ytminmcledbfchaa
open Go
set_option linter.unusedVariables false
set_option linter.unusedSimpArgs false
section
variable {P : Program} {ops : Array Oper} {Q : Exit → Act → World → Prop} {md : Region.Mode} {S : World → Prop}
theorem held_take {i : Nat} {oi : Oper} {v : Value} (d : Option Tmp) {fuel : Nat} {listed : Array Bool} {a : Act} {w : World} (hi : ops[i]? = some oi) (hd : oi.dst = d)
    (hs : Region.noSelect ops = true) (hf : Region.free md ops listed i = true) (hr : (Region.ready md ops listed).contains i = true)
    (hQ : ∀ c a w, Q (.panic c) (a.put d v) w → Q (.panic c) a w) (hy : YieldsIf P ops S oi v a) (hS : S w)
    (h : wpAnyH P md ops Q S fuel (listed.setIfInBounds i true) (a.put d v) w) : wpAnyH P md ops Q S (fuel + 1) listed a w := by
  subst hd
  exact wpAnyH_take hi hs hf hr hQ hy hS h
theorem held_one {j : Nat} {o : Oper} {fuel : Nat} {listed : Array Bool} {a : Act} {w : World} (hr : Region.ready md ops listed = [j]) (ho : ops[j]? = some o)
    (h : ∀ K' : Act → World → Prop, Shut (∀ a w, S w → (S w → wpAnyH P md ops Q S fuel (listed.setIfInBounds j true) a w) → K' a w) → if Region.wanted o (yielded ops a.tmps) = true then Oper.wp P o a w K' Q else K' (a.put o.dst undef) w) : wpAnyH P md ops Q S (fuel + 1) listed a w :=
  wpAnyH_ready hr (by simp) (AllReadyH.cons ho h AllReadyH.nil)
theorem held_two {j k : Nat} {o o' : Oper} {fuel : Nat} {listed : Array Bool} {a : Act} {w : World} (hr : Region.ready md ops listed = [j, k]) (ho : ops[j]? = some o) (ho' : ops[k]? = some o')
    (h : ∀ K' : Act → World → Prop, Shut (∀ a w, S w → (S w → wpAnyH P md ops Q S fuel (listed.setIfInBounds j true) a w) → K' a w) → if Region.wanted o (yielded ops a.tmps) = true then Oper.wp P o a w K' Q else K' (a.put o.dst undef) w)
    (h' : ∀ K' : Act → World → Prop, Shut (∀ a w, S w → (S w → wpAnyH P md ops Q S fuel (listed.setIfInBounds k true) a w) → K' a w) → if Region.wanted o' (yielded ops a.tmps) = true then Oper.wp P o' a w K' Q else K' (a.put o'.dst undef) w) : wpAnyH P md ops Q S (fuel + 1) listed a w :=
  wpAnyH_ready hr (by simp) (AllReadyH.cons ho h (AllReadyH.cons ho' h' AllReadyH.nil))
end
end Go.Proofs.Ytminmcledbfchaa

namespace Go.Proofs.Ytminmcledbfchaa
open Go.RowKit Go.Lib
set_option linter.unusedVariables false
set_option linter.unusedSimpArgs false
theorem add16_next (a : Addr) (n : Nat) : a.add (n + 1) = ⟨(a.add n).block, (a.add n).off + 1, none⟩ := by
  unfold Addr.add
  by_cases h : n = 0
  · subst h; simp
  · simp [h]; omega
theorem PairsIn.rel16 {w w' : World} {A : Option Addr} {n : Nat} {zs : List (Int × Int)} (h : PairsIn w A n zs) (hr : Rel w w') : PairsIn w' A n zs := ⟨h.1, h.2.1, h.2.2.1, h.2.2.2.rel hr⟩
theorem pairs16_at {w : World} {A : Option Addr} {n : Nat} {zs : List (Int × Int)} (h : PairsIn w A n zs) (j : Nat) (hj : j < zs.length) :
    ∃ (a : Addr) (x y : Int), A = some a ∧ a.block < w.heap.size ∧ w.cell? (a.add (j * 2)) = some (.int .i64 x) ∧ w.cell? ⟨(a.add (j * 2)).block, (a.add (j * 2)).off + 1, none⟩ = some (.int .i64 y) ∧ zs[j] = (x, y) ∧ i64 x ∧ i64 y := by
  obtain ⟨_, _, hb, hp⟩ := h
  obtain ⟨a, e, hl, c0, c1⟩ := hp j hj
  have := hb zs[j] (List.getElem_mem hj)
  rw [add16_next] at c1
  exact ⟨a, zs[j].1, zs[j].2, e, hl, c0, c1, rfl, this.1, this.2⟩
set_option maxRecDepth 100000 in
set_option maxHeartbeats 16000000 in
theorem made16_any {HP : HpT} (H : HeapOk HP) (zs : List (Int × Int)) (AZ : Option Addr) (kz : Nat) (w : World) (hr : Rel w w) (hZ : PairsIn w AZ zs.length zs) :
    Calls Try.prog 28 #[.slice AZ zs.length kz] w fun e w' => ∃ (g : Nat) (S : Nat → Prop), e = .returned (.pointer (some ⟨g, 0, none⟩)) ∧ Hid (Hq HP w w' (.pointer (some ⟨g, 0, none⟩)) S 1000 (madeL zs)) := by
  have HR := Lib.hid hr
  have HH := Lib.hid H
  have HZ := Lib.hid hZ
  have hzl : zs.length ≤ 9223372036854775807 := hZ.2.1
  have K0 := Lib.hid (fun (w1 : World) (hr : Rel w w1) => hnew16 H (w0 := w) w1 hr (most := 1000) (in16 (by decide) (by decide)) (by decide) (by decide))
  clear H hr hZ
  go_enter Try.func28, Try.ntmps28
  go_upto_region 2 with (go_at_call 11; (with_reducible refine (K0.out _ HR.out).mono ?_); rintro e w1 ⟨g, S0, rfl, HM1, _, _⟩)
  go_upto_block 0 with (fail)
  go_cut [] (fun wx => ∃ (S : Nat → Prop), Hq HP w wx (.pointer (some ⟨g, 0, none⟩)) S 1000 (madeL zs))
  case first =>
    go_wp2_with (fail)
    go_loopw [4] (fun i wr => ∃ (j : Nat) (L : List It) (S : Nat → Prop), j ≤ zs.length ∧ j ≤ 30 ∧ i = .int .i64 (j : Int) ∧ Hid (madeN zs j = L) ∧ Hid (Hq HP w wr (.pointer (some ⟨g, 0, none⟩)) S 1000 L)) (fun i _ => zs.length - (RowKit.intOf i).toNat)
    case atStart => exact ⟨0, [], S0, by omega, by omega, rfl, Lib.hid rfl, HM1⟩
    case round =>
      obtain ⟨j, L, S, hj, hj3, rfl, HN, HM⟩ := hrel
      by_cases hlt : j < zs.length
      · by_cases h30 : j < 30
        · obtain ⟨a, x, y, rfl, hla, c0, c1, hxy, hx, hy⟩ := pairs16_at HZ.out j hlt
          have HLT := Lib.hid hla
          have C0 := Lib.hid c0
          have C1 := Lib.hid c1
          have hj0 : (0 : Int) ≤ (j : Int) := by omega
          have hji : (j : Int) < (zs.length : Int) := by omega
          have hj30 : (j : Int) < 30 := by omega
          obtain ⟨p, hp⟩ : ∃ p, pk x 50 = p := ⟨_, rfl⟩
          have hpb := pk_bd x 50 (by omega)
          rw [hp] at hpb
          have HP1 := Lib.hid hp
          obtain ⟨q, hq⟩ : ∃ q, pk y 9 = q := ⟨_, rfl⟩
          have hqb := pk_bd y 9 (by omega)
          rw [hq] at hqb
          have HQ1 := Lib.hid hq
          obtain ⟨L2, hL2⟩ : ∃ z, pushL 1000 L p q = z := ⟨_, rfl⟩
          have HNx := Lib.hid (show madeN zs (j + 1) = L2 by rw [made_next hlt, HN.out, hxy]; show pushL 1000 L (pk x 50) (pk y 9) = L2; rw [hp, hq, hL2])
          have KP := Lib.hid (fun (w1 : World) (h : Hq HP w w1 (.pointer (some ⟨g, 0, none⟩)) S 1000 L) => hpush16 HH.out h (k := p) (p := q) (in16 (by omega) (by omega)) (in16 (by omega) (by omega)) rfl hL2)
          clear hxy hp hq hpb hqb hL2 hla c0 c1
          go_upto_region 5 with (fail)
          refine wp_region_held_drew (S := (fun w' => Rel w w')) (by kernel_rfl) HM.out.rel.drew (fun hHeld => ?_)
          refine held_take (i := 0) (v := ?_) (some 16) rfl rfl (by kernel_rfl) (by kernel_rfl) (by kernel_rfl) (fun _ _ _ h => h) (Or.inl ⟨by rfl, ?_⟩) hHeld ?_
          rotate_left 1
          · rintro w' hr'; have c0' := (hr'.2.cell (p := a.add (j * 2)) (by rw [block_add]; exact HLT.out)).trans C0.out; have c1' := (hr'.2.cell (p := ⟨(a.add (j * 2)).block, (a.add (j * 2)).off + 1, none⟩) (show (a.add (j * 2)).block < _ by rw [block_add]; exact HLT.out)).trans C1.out; go_simp; try with_reducible rfl
          try simp only [Act.put, List.setIfInBounds_toArray, List.set_cons_zero, List.set_cons_succ]
          refine held_take (i := 1) (v := ?_) (some 17) rfl rfl (by kernel_rfl) (by kernel_rfl) (by kernel_rfl) (fun _ _ _ h => h) (Or.inl ⟨by rfl, ?_⟩) hHeld ?_
          rotate_left 1
          · rintro w' hr'; have c0' := (hr'.2.cell (p := a.add (j * 2)) (by rw [block_add]; exact HLT.out)).trans C0.out; have c1' := (hr'.2.cell (p := ⟨(a.add (j * 2)).block, (a.add (j * 2)).off + 1, none⟩) (show (a.add (j * 2)).block < _ by rw [block_add]; exact HLT.out)).trans C1.out; go_simp; try with_reducible rfl
          try simp only [Act.put, List.setIfInBounds_toArray, List.set_cons_zero, List.set_cons_succ]
          refine held_take (i := 2) (v := ?_) (some 18) rfl rfl (by kernel_rfl) (by kernel_rfl) (by kernel_rfl) (fun _ _ _ h => h) (Or.inl ⟨by rfl, ?_⟩) hHeld ?_
          rotate_left 1
          · rintro w' hr'; have c0' := (hr'.2.cell (p := a.add (j * 2)) (by rw [block_add]; exact HLT.out)).trans C0.out; have c1' := (hr'.2.cell (p := ⟨(a.add (j * 2)).block, (a.add (j * 2)).off + 1, none⟩) (show (a.add (j * 2)).block < _ by rw [block_add]; exact HLT.out)).trans C1.out; go_simp; try with_reducible rfl
          try simp only [Act.put, List.setIfInBounds_toArray, List.set_cons_zero, List.set_cons_succ]
          refine held_take (i := 3) (v := ?_) (some 19) rfl rfl (by kernel_rfl) (by kernel_rfl) (by kernel_rfl) (fun _ _ _ h => h) (Or.inl ⟨by rfl, ?_⟩) hHeld ?_
          rotate_left 1
          · rintro w' hr'; have c0' := (hr'.2.cell (p := a.add (j * 2)) (by rw [block_add]; exact HLT.out)).trans C0.out; have c1' := (hr'.2.cell (p := ⟨(a.add (j * 2)).block, (a.add (j * 2)).off + 1, none⟩) (show (a.add (j * 2)).block < _ by rw [block_add]; exact HLT.out)).trans C1.out; go_simp; try with_reducible rfl
          try simp only [Act.put, List.setIfInBounds_toArray, List.set_cons_zero, List.set_cons_succ]
          refine held_take (i := 4) (v := ?_) (some 20) rfl rfl (by kernel_rfl) (by kernel_rfl) (by kernel_rfl) (fun _ _ _ h => h) (Or.inl ⟨by rfl, ?_⟩) hHeld ?_
          rotate_left 1
          · rintro w' hr'; have c0' := (hr'.2.cell (p := a.add (j * 2)) (by rw [block_add]; exact HLT.out)).trans C0.out; have c1' := (hr'.2.cell (p := ⟨(a.add (j * 2)).block, (a.add (j * 2)).off + 1, none⟩) (show (a.add (j * 2)).block < _ by rw [block_add]; exact HLT.out)).trans C1.out; go_simp; try with_reducible rfl
          try simp only [Act.put, List.setIfInBounds_toArray, List.set_cons_zero, List.set_cons_succ]
          refine held_take (i := 5) (v := ?_) (some 21) rfl rfl (by kernel_rfl) (by kernel_rfl) (by kernel_rfl) (fun _ _ _ h => h) (Or.inl ⟨by rfl, ?_⟩) hHeld ?_
          rotate_left 1
          · rintro w' hr'; have c0' := (hr'.2.cell (p := a.add (j * 2)) (by rw [block_add]; exact HLT.out)).trans C0.out; have c1' := (hr'.2.cell (p := ⟨(a.add (j * 2)).block, (a.add (j * 2)).off + 1, none⟩) (show (a.add (j * 2)).block < _ by rw [block_add]; exact HLT.out)).trans C1.out; go_simp; try with_reducible rfl
          try simp only [Act.put, List.setIfInBounds_toArray, List.set_cons_zero, List.set_cons_succ]
          refine held_take (i := 7) (v := ?_) (some 23) rfl rfl (by kernel_rfl) (by kernel_rfl) (by kernel_rfl) (fun _ _ _ h => h) (Or.inl ⟨by rfl, ?_⟩) hHeld ?_
          rotate_left 1
          · rintro w' hr'; have c0' := (hr'.2.cell (p := a.add (j * 2)) (by rw [block_add]; exact HLT.out)).trans C0.out; have c1' := (hr'.2.cell (p := ⟨(a.add (j * 2)).block, (a.add (j * 2)).off + 1, none⟩) (show (a.add (j * 2)).block < _ by rw [block_add]; exact HLT.out)).trans C1.out; go_simp; try with_reducible rfl
          try simp only [Act.put, List.setIfInBounds_toArray, List.set_cons_zero, List.set_cons_succ]
          refine held_take (i := 8) (v := ?_) (some 24) rfl rfl (by kernel_rfl) (by kernel_rfl) (by kernel_rfl) (fun _ _ _ h => h) (Or.inl ⟨by rfl, ?_⟩) hHeld ?_
          rotate_left 1
          · rintro w' hr'; have c0' := (hr'.2.cell (p := a.add (j * 2)) (by rw [block_add]; exact HLT.out)).trans C0.out; have c1' := (hr'.2.cell (p := ⟨(a.add (j * 2)).block, (a.add (j * 2)).off + 1, none⟩) (show (a.add (j * 2)).block < _ by rw [block_add]; exact HLT.out)).trans C1.out; go_simp; try with_reducible rfl
          try simp only [Act.put, List.setIfInBounds_toArray, List.set_cons_zero, List.set_cons_succ]
          refine held_take (i := 9) (v := ?_) (some 25) rfl rfl (by kernel_rfl) (by kernel_rfl) (by kernel_rfl) (fun _ _ _ h => h) (Or.inl ⟨by rfl, ?_⟩) hHeld ?_
          rotate_left 1
          · rintro w' hr'; have c0' := (hr'.2.cell (p := a.add (j * 2)) (by rw [block_add]; exact HLT.out)).trans C0.out; have c1' := (hr'.2.cell (p := ⟨(a.add (j * 2)).block, (a.add (j * 2)).off + 1, none⟩) (show (a.add (j * 2)).block < _ by rw [block_add]; exact HLT.out)).trans C1.out; go_simp; try with_reducible rfl
          try simp only [Act.put, List.setIfInBounds_toArray, List.set_cons_zero, List.set_cons_succ]
          refine held_take (i := 10) (v := ?_) (some 26) rfl rfl (by kernel_rfl) (by kernel_rfl) (by kernel_rfl) (fun _ _ _ h => h) (Or.inl ⟨by rfl, ?_⟩) hHeld ?_
          rotate_left 1
          · rintro w' hr'; have c0' := (hr'.2.cell (p := a.add (j * 2)) (by rw [block_add]; exact HLT.out)).trans C0.out; have c1' := (hr'.2.cell (p := ⟨(a.add (j * 2)).block, (a.add (j * 2)).off + 1, none⟩) (show (a.add (j * 2)).block < _ by rw [block_add]; exact HLT.out)).trans C1.out; go_simp; try with_reducible rfl
          try simp only [Act.put, List.setIfInBounds_toArray, List.set_cons_zero, List.set_cons_succ]
          refine held_take (i := 11) (v := ?_) (some 27) rfl rfl (by kernel_rfl) (by kernel_rfl) (by kernel_rfl) (fun _ _ _ h => h) (Or.inl ⟨by rfl, ?_⟩) hHeld ?_
          rotate_left 1
          · rintro w' hr'; have c0' := (hr'.2.cell (p := a.add (j * 2)) (by rw [block_add]; exact HLT.out)).trans C0.out; have c1' := (hr'.2.cell (p := ⟨(a.add (j * 2)).block, (a.add (j * 2)).off + 1, none⟩) (show (a.add (j * 2)).block < _ by rw [block_add]; exact HLT.out)).trans C1.out; go_simp; try with_reducible rfl
          try simp only [Act.put, List.setIfInBounds_toArray, List.set_cons_zero, List.set_cons_succ]
          refine held_one (j := 6) (by kernel_rfl) rfl (fun K hK => ?_)
          try simp only [List.getElem_toArray, List.getElem_cons_succ, List.getElem_cons_zero]
          rw [if_pos (by rfl)]
          go_simp
          go_at_call 10; (with_reducible refine (pk16_as x 50 p HP1 hx (by omega) (by omega) _).mono ?_); rintro e w' ⟨rfl, rfl⟩
          refine hK.out _ _ hHeld (fun hHeld => ?_)
          clear hK K
          try simp only [Act.put, List.setIfInBounds_toArray, List.set_cons_zero, List.set_cons_succ]
          refine held_one (j := 12) (by kernel_rfl) rfl (fun K hK => ?_)
          try simp only [List.getElem_toArray, List.getElem_cons_succ, List.getElem_cons_zero]
          rw [if_pos (by rfl)]
          go_simp
          go_at_call 10; (with_reducible refine (pk16_as y 9 q HQ1 hy (by omega) (by omega) _).mono ?_); rintro e w' ⟨rfl, rfl⟩
          refine hK.out _ _ hHeld (fun hHeld => ?_)
          clear hK K
          try simp only [Act.put, List.setIfInBounds_toArray, List.set_cons_zero, List.set_cons_succ]
          refine held_one (j := 13) (by kernel_rfl) rfl (fun K hK => ?_)
          try simp only [List.getElem_toArray, List.getElem_cons_succ, List.getElem_cons_zero]
          rw [if_pos (by rfl)]
          go_simp
          go_at_call 13; (with_reducible refine (KP.out _ (Hq.to HH.out HM.out HM.out.rel.self.drew)).mono ?_); rintro e w2 ⟨S2, rfl, hM2, _⟩
          refine hK.out _ _ hM2.out.rel (fun hHeld => ?_)
          clear hK K
          try simp only [Act.put, List.setIfInBounds_toArray, List.set_cons_zero, List.set_cons_succ]
          refine wpAnyH_done (by kernel_rfl) ?_ _
          go_wp2_with (fail)
          go_roundw
          case rel => exact ⟨j + 1, L2, S2, by omega, by omega, by go_num, HNx, hM2⟩
          case measure => simp [RowKit.intOf]; omega
        · obtain rfl : j = 30 := by omega
          have HE := Lib.hid (show madeL zs = L by rw [made_min, show min zs.length 30 = 30 by omega, HN.out])
          go_wp2_with (fail)
          go_meet
          exact ⟨S, by rw [HE.out]; exact HM.out⟩
      · obtain rfl : j = zs.length := by omega
        have HE := Lib.hid (show madeL zs = L by rw [made_min, show min zs.length 30 = zs.length by omega, HN.out])
        go_wp2_with (fail)
        all_goals
          go_meet
          exact ⟨S, by rw [HE.out]; exact HM.out⟩
  obtain ⟨S, hM⟩ := hcut
  have HM := Lib.hid hM
  clear hM
  go_wp2_with (fail)
  go_ret
  exact ⟨g, S, rfl, HM⟩
end Go.Proofs.Ytminmcledbfchaa
