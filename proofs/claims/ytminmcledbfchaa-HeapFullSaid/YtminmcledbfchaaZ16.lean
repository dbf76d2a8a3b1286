/- Layer 16: a heap that is full takes none; with one taken out, it takes one (HeapFull). -/
import Derived.Test.YtminmcledbfchaaZL
import Derived.Test.YtminmcledbfchaaZ00
import Derived.Test.YtminmcledbfchaaZ01
import Derived.Test.YtminmcledbfchaaZ06
import Derived.Test.YtminmcledbfchaaZ08
import Derived.Test.YtminmcledbfchaaZ09
import Derived.Test.YtminmcledbfchaaZ10
import Derived.Test.YtminmcledbfchaaZ12
namespace Go.Proofs.Ytminmcledbfchaa
open Go.RowKit Go.Lib
set_option linter.unusedVariables false
set_option linter.unusedSimpArgs false
/-- Keys 0 to j - 1. -/
def FullAt (L : List It) (j : Nat) : Prop := L.length = j ∧ Srt L ∧ ∀ k, hasH L k = true ↔ 0 ≤ k ∧ k < (j : Int)
/-- One of them is out. -/
def LackAt (L : List It) (j : Nat) : Prop := L.length + 1 = j ∧ Srt L ∧ ∀ k, hasH L k = true → 0 ≤ k ∧ k < (j : Int)
theorem has_ins {L : List It} {y : It} {k : Int} : hasH (insH L y) k = true ↔ y.1 = k ∨ hasH L k = true := by
  rw [has_iff, has_iff]
  constructor
  · rintro ⟨z, hz, e⟩
    rcases ins_mem.1 hz with rfl | hz
    · exact .inl e
    · exact .inr ⟨z, hz, e⟩
  · rintro (e | ⟨z, hz, e⟩)
    · exact ⟨y, ins_mem.2 (.inl rfl), e⟩
    · exact ⟨z, ins_mem.2 (.inr hz), e⟩
theorem full_next {L : List It} {j : Nat} (h : FullAt L j) (p : Int) : FullAt (insH L ((j : Int), p)) (j + 1) := by
  obtain ⟨h1, h2, h3⟩ := h
  refine ⟨by rw [ins_len, h1], ins_srt h2 (not_has fun e => ?_), fun k => ?_⟩
  · have := (h3 _).1 e
    have h4 : (j : Int) < (j : Int) := this.2
    omega
  · rw [has_ins, h3]
    show (j : Int) = k ∨ _ ↔ _
    constructor
    · rintro (h | h) <;> omega
    · intro h; omega
theorem full_push {L : List It} {j : Nat} (h : FullAt L j) {m : Int} (hm : (j : Int) < m) (p : Int) : pushE m L (j : Int) = 0 ∧ pushL m L (j : Int) p = insH L ((j : Int), p) := by
  obtain ⟨h1, h2, h3⟩ := h
  have e : pushE m L (j : Int) = 0 := by
    unfold pushE
    rw [not_has (fun e => by have := (h3 _).1 e; omega), h1, if_neg (by simp), if_neg (by omega)]
  exact ⟨e, by unfold pushL; rw [if_pos e]⟩
theorem full_no {L : List It} {j : Nat} (h : FullAt L j) (p : Int) : pushE (j : Int) L (j : Int) = 50 ∧ pushL (j : Int) L (j : Int) p = L := by
  obtain ⟨h1, h2, h3⟩ := h
  have e : pushE (j : Int) L (j : Int) = 50 := by
    unfold pushE
    rw [not_has (fun e => by have := (h3 _).1 e; omega), h1, if_neg (by simp), if_pos (by omega)]
  exact ⟨e, by unfold pushL; rw [if_neg (by rw [e]; decide)]⟩
theorem full_twice {L : List It} {j : Nat} (h : FullAt L j) {q : Int} (h0 : 0 ≤ q) (hq : q < (j : Int)) (p : Int) : pushE (j : Int) L q = 1 ∧ pushL (j : Int) L q p = L := by
  have e : pushE (j : Int) L q = 1 := by
    unfold pushE
    rw [(h.2.2 q).2 ⟨h0, hq⟩, if_pos rfl]
  exact ⟨e, by unfold pushL; rw [if_neg (by rw [e]; decide)]⟩
theorem full_rem {L : List It} {j : Nat} (h : FullAt L j) {q : Int} (h0 : hasH L q = true) : LackAt (remH L q) j := by
  obtain ⟨h1, h2, h3⟩ := h
  obtain ⟨p, hz, _⟩ := has_item h2 h0
  have hl : (remH L q).length + 1 = L.length := rem_len h2 hz
  refine ⟨by omega, rem_srt h2 q, fun k hk => (h3 k).1 ?_⟩
  obtain ⟨z, hz, e⟩ := has_iff.1 hk
  exact has_iff.2 ⟨z, (rem_mem.1 hz).1, e⟩
theorem full_pop {L : List It} {j : Nat} (h : FullAt L j) (hj : 0 < j) : (topH L).isSome = true ∧ LackAt (popH L) j := by
  obtain ⟨z, hz⟩ := top_some (L := L) (by rw [h.1]; exact hj)
  have e : popH L = remH L z.1 := by unfold popH; rw [hz]
  rw [e, hz]
  exact ⟨rfl, full_rem h (has_iff.2 ⟨z, top_mem hz, rfl⟩)⟩
theorem lack_push {L : List It} {j : Nat} (h : LackAt L j) (p : Int) : pushE (j : Int) L (j : Int) = 0 ∧ pushL (j : Int) L (j : Int) p = insH L ((j : Int), p) := by
  obtain ⟨h1, h2, h3⟩ := h
  have e : pushE (j : Int) L (j : Int) = 0 := by
    unfold pushE
    rw [not_has (fun e => by have := h3 _ e; omega), if_neg (by simp), if_neg (by omega)]
  exact ⟨e, by unfold pushL; rw [if_pos e]⟩
theorem lack_no {L : List It} {j : Nat} (h : LackAt L j) (p r : Int) : pushE (j : Int) (insH L ((j : Int), p)) ((j : Int) + 1) = 50 ∧ pushL (j : Int) (insH L ((j : Int), p)) ((j : Int) + 1) r = insH L ((j : Int), p) := by
  obtain ⟨h1, h2, h3⟩ := h
  have e : pushE (j : Int) (insH L ((j : Int), p)) ((j : Int) + 1) = 50 := by
    unfold pushE
    rw [not_has (fun e => by
      rcases has_ins.1 e with e | e
      · have e : (j : Int) = (j : Int) + 1 := e
        omega
      · have := h3 _ e; omega), ins_len, if_neg (by simp), if_pos (by omega)]
  exact ⟨e, by unfold pushL; rw [if_neg (by rw [e]; decide)]⟩
set_option maxRecDepth 100000 in
set_option maxHeartbeats 16000000 in
theorem HeapFull_at {HP : HpT} (H : HeapOk HP) (n x : Int) (hn : i64 n) (hx : i64 x) (A : Option Addr) (c : Nat) (zs : List Int) (w : World) (hr : Rel w w) (hZ : Ints16 w A c zs) :
    Calls Try.prog 8 #[.int .i64 n, .slice A zs.length c, .int .i64 x] w fun e w' => e = .returned (.bool true) ∧ Rel w w' := by
  have HR := Lib.hid hr
  have HH := Lib.hid H
  have HZ := Lib.hid hZ
  have HAw := Lib.hid (fun (w : World) (hr : Rel w w) => awake16_any H w hr)
  obtain ⟨N, hN⟩ : ∃ n, zs.length = n := ⟨_, rfl⟩
  have hN9 : N ≤ 9223372036854775807 := by rw [← hN]; have h1 := hZ.1; have h2 := hZ.2.1; unfold maxLen at h2; omega
  have HN := Lib.hid hN
  rw [hN]
  obtain ⟨K, hK⟩ : ∃ k, pk n 12 = k := ⟨_, rfl⟩
  have hKb := pk_bd n 12 (by omega)
  rw [hK] at hKb
  have HPn := Lib.hid (fun (w : World) => pk16_as n 12 K (Lib.hid hK) hn (by omega) (by omega) w)
  obtain ⟨M, hM⟩ : ∃ M : Nat, (1 : Int) + K = (M : Int) := ⟨(1 + K).toNat, by omega⟩
  have hM1 : 1 ≤ M := by omega
  have hM2 : M ≤ 12 := by omega
  have HM1 := Lib.hid hM1
  have HM2 := Lib.hid hM2
  have hMi : i64 (M : Int) := in16 (by omega) (by omega)
  have hMj : i64 ((M : Int) + 1) := in16 (by omega) (by omega)
  have h5i : i64 5 := in16 (by omega) (by omega)
  have k5 : wrap64 (M : Int) = (M : Int) := by unfold wrap64; omega
  have k6 : wrap64 ((M : Int) + 1) = (M : Int) + 1 := by unfold wrap64; omega
  obtain ⟨q, hq⟩ : ∃ k, pk x (M : Int) = k := ⟨_, rfl⟩
  have hqb := pk_bd x (M : Int) (by omega)
  rw [hq] at hqb
  have hqi : i64 q := in16 (by omega) (by omega)
  have HPq := Lib.hid (fun (w : World) => pk16_as x (M : Int) q (Lib.hid hq) hx (by omega) (by omega) w)
  obtain ⟨r, hr2⟩ : ∃ k, pk x 2 = k := ⟨_, rfl⟩
  have HPr := Lib.hid (fun (w : World) => pk16_as x 2 r (Lib.hid hr2) hx (by omega) (by omega) w)
  have HPz := Lib.hid (fun (z p : Int) (hz : i64 z) (hp : pk z 9 = p) (w : World) => pk16_as z 9 p (Lib.hid hp) hz (by omega) (by omega) w)
  have KN := Lib.hid (fun (w1 : World) (hr : Rel w w1) => hnew16 H (w0 := w) w1 hr hMi (by omega) (by omega))
  have KP := Lib.hid (fun (w1 : World) (v : Value) (S : Nat → Prop) (L : List It) (j : Nat) (p : Int) (hj : j < M) (hf : FullAt L j) (hp : i64 p) (h : Hq HP w w1 v S (M : Int) L) => hpush16 H h (k := (j : Int)) (in16 (by omega) (by omega)) hp (full_push hf (by omega) p).1 (full_push hf (by omega) p).2)
  have K0 := Lib.hid (fun (w1 : World) (v : Value) (S : Nat → Prop) (L : List It) (hf : FullAt L M) (h : Hq HP w w1 v S (M : Int) L) => hpush16 H h hMi h5i (full_no hf 5).1 (full_no hf 5).2)
  have K1 := Lib.hid (fun (w1 : World) (v : Value) (S : Nat → Prop) (L : List It) (hf : FullAt L M) (h : Hq HP w w1 v S (M : Int) L) => hpush16 H h hqi h5i (full_twice hf hqb.1 hqb.2 5).1 (full_twice hf hqb.1 hqb.2 5).2)
  have KR := Lib.hid (fun (w1 : World) (v : Value) (S : Nat → Prop) (L : List It) (hf : FullAt L M) (h : Hq HP w w1 v S (M : Int) L) => hrem16 H h hqi ((hf.2.2 q).2 hqb) (L' := remH L q) rfl)
  have KRl := Lib.hid (fun (L : List It) (hf : FullAt L M) => full_rem hf ((hf.2.2 q).2 hqb))
  have KA := Lib.hid (fun (w1 : World) (v : Value) (S : Nat → Prop) (L : List It) (hf : LackAt L M) (h : Hq HP w w1 v S (M : Int) L) => hpush16 H h hMi h5i (lack_push hf 5).1 (lack_push hf 5).2)
  have KB := Lib.hid (fun (w1 : World) (v : Value) (S : Nat → Prop) (L : List It) (hf : LackAt L M) (h : Hq HP w w1 v S (M : Int) (insH L ((M : Int), 5))) => hpush16 H h hMj h5i (lack_no hf 5 5).1 (lack_no hf 5 5).2)
  have KC := Lib.hid (fun (w1 : World) (v : Value) (S : Nat → Prop) (L : List It) (hf : LackAt L M) (h : Hq HP w w1 v S (M : Int) (insH L ((M : Int), 5))) => hlen16 H h (n := M) (by rw [ins_len]; exact hf.1))
  clear H hr hx hn hZ hN hK hKb hM1 hM2 hMi hMj h5i hq hqb hqi hr2
  go_enter Try.func8, Try.ntmps8
  go_upto_region 2 with (go_at_call 9; (with_reducible refine (HAw.out w HR.out).mono ?_); rintro e w1 ⟨rfl, h1⟩; have R1 := Lib.hid h1; clear h1)
  go_upto_region 3 with (go_at_call 10; (with_reducible refine (HPn.out w1).mono ?_); rintro e w1' ⟨rfl, rfl⟩)
  clear hM
  go_upto_region 4 with (go_at_call 11; (with_reducible refine (KN.out w1 R1.out).mono ?_); rintro e w2 ⟨g0, S0, rfl, h2, _, _⟩)
  obtain ⟨v, hv⟩ : ∃ v, Value.pointer (some ⟨g0, 0, none⟩) = v := ⟨_, rfl⟩
  rw [hv] at h2
  try rw [hv]
  clear hv KN HPn R1 HAw
  have HF0 := Lib.hid (show FullAt [] 0 from ⟨rfl, srt_nil, fun k => ⟨fun h => absurd (show (false : Bool) = true from h) (by simp), fun h => by omega⟩⟩)
  go_upto_block 0 with (fail)
  go_cut [] (fun wx => ∃ (S : Nat → Prop) (L : List It), Hid (FullAt L M) ∧ Hid (Hq HP w wx v S (M : Int) L))
  case first =>
    go_wp2_with (fail)
    go_loopw [10] (fun i wr => ∃ (j : Nat) (S : Nat → Prop) (L : List It), j ≤ M ∧ i = .int .i64 (j : Int) ∧ Hid (FullAt L j) ∧ Hid (Hq HP w wr v S (M : Int) L)) (fun i _ => M - (RowKit.intOf i).toNat)
    case atStart => exact ⟨0, S0, [], by omega, rfl, HF0, h2⟩
    case round =>
      obtain ⟨j, S, L, hj, rfl, HF, HQ⟩ := hrel
      by_cases hlt : j < M
      rotate_left 1
      · obtain rfl : j = M := by omega
        go_wp2_with (fail)
        go_meet
        exact ⟨S, L, HF, HQ⟩
      have hji : (j : Int) < (M : Int) := by omega
      have hji0 : (0 : Int) ≤ (j : Int) := by omega
      have hM2 := HM2.out
      by_cases hz : j < N
      · have hzi : (j : Int) < (N : Int) := by omega
        obtain ⟨a, rfl, hla, c0⟩ := (HZ.out.rel HQ.out.rel).2.2.2 j (by rw [HN.out]; exact hz)
        have hzf := HZ.out.2.2.1 _ (List.getElem_mem (l := zs) (n := j) (by rw [HN.out]; exact hz))
        obtain ⟨z, hze⟩ : ∃ z, zs[j]'(by rw [HN.out]; exact hz) = z := ⟨_, rfl⟩
        rw [hze] at c0 hzf
        obtain ⟨p, hp⟩ : ∃ p, pk z 9 = p := ⟨_, rfl⟩
        have hpb := pk_bd z 9 (by omega)
        rw [hp] at hpb
        have hpi : i64 p := in16 (by omega) (by omega)
        have HPk := Lib.hid (HPz.out z p hzf hp)
        have HPu := Lib.hid (KP.out wr v S L j p hlt HF.out hpi HQ.out)
        clear hze hp hpb hpi hzf hla
        go_upto_region 10 with (go_at_call 10; (with_reducible refine (HPk.out wr).mono ?_); rintro e wr' ⟨rfl, rfl⟩)
        clear c0
        go_wp2_with (go_at_call 13; (with_reducible refine (HPu.out).mono ?_); rintro e w5 ⟨S5, rfl, h5, _⟩)
        go_roundw
        case rel => exact ⟨j + 1, S5, _, by omega, by go_num, Lib.hid (full_next HF.out p), h5⟩
        case measure => simp [RowKit.intOf]; omega
      · have hzi : ¬ (j : Int) < (N : Int) := by omega
        have HPu := Lib.hid (KP.out wr v S L j 0 hlt HF.out (in16 (by omega) (by omega)) HQ.out)
        go_wp2_with (go_at_call 13; (with_reducible refine (HPu.out).mono ?_); rintro e w5 ⟨S5, rfl, h5, _⟩)
        go_roundw
        case rel => exact ⟨j + 1, S5, _, by omega, by go_num, Lib.hid (full_next HF.out 0), h5⟩
        case measure => simp [RowKit.intOf]; omega
  obtain ⟨S3, L, HF, h3⟩ := hcut
  clear h2 HF0 KP HPz
  have HPo := Lib.hid (fun (w1 : World) (S : Nat → Prop) (h : Hq HP w w1 v S (M : Int) L) => hpop16 HH.out h (x := (itH (topH L)).1) (y := (itH (topH L)).2) (b := true) (L' := popH L) rfl (full_pop HF.out HM1.out).1 rfl)
  go_upto_region 13 with (go_at_call 13; (with_reducible refine (K0.out _ _ _ _ HF.out h3.out).mono ?_); rintro e w4 ⟨S4, rfl, h4, _⟩)
  go_upto_region 14 with (first
    | (go_at_call 10; (with_reducible refine (HPq.out _).mono ?_); rintro e w4' ⟨rfl, rfl⟩)
    | (go_at_call 13; (with_reducible refine (K1.out _ _ _ _ HF.out h4.out).mono ?_); rintro e w5 ⟨S5, rfl, h5, _⟩))
  clear h3 h4 K0 K1
  obtain ⟨ux, hux⟩ : ∃ z, (itH (topH L)).1 = z := ⟨_, rfl⟩
  obtain ⟨uy, huy⟩ : ∃ z, (itH (topH L)).2 = z := ⟨_, rfl⟩
  rw [hux, huy] at HPo
  clear hux huy
  by_cases hr0 : r = 0
  · subst hr0
    have HLa := Lib.hid (full_pop HF.out HM1.out).2
    clear HF
    go_upto_region 16 with (first
      | (go_at_call 10; (with_reducible refine (HPr.out _).mono ?_); rintro e w5' ⟨rfl, rfl⟩)
      | (go_at_call 15; (with_reducible refine (HPo.out _ _ h5.out).mono ?_); rintro e w6 ⟨S6, rfl, h6, _⟩))
    have HQ := Lib.hid (Hq.to HH.out h6.out (h6.out.rel.self.alloc (.cells #[.int .i64 ux, .int .i64 uy] 36)))
    obtain ⟨w7, hw7⟩ : ∃ W, w6.alloc (.cells #[.int .i64 ux, .int .i64 uy] 36) = W := ⟨_, rfl⟩
    rw [hw7] at HQ
    try rw [hw7]
    clear hw7
    go_upto_region 20 with (fail)
    go_upto_region 21 with (go_at_call 13; (with_reducible refine (KA.out _ _ _ _ HLa.out HQ.out).mono ?_); rintro e wA ⟨SA, rfl, hA, _⟩)
    go_upto_region 22 with (go_at_call 13; (with_reducible refine (KB.out _ _ _ _ HLa.out hA.out).mono ?_); rintro e wB ⟨SB, rfl, hB, _⟩)
    go_wp2_with (go_at_call 25; (with_reducible refine (KC.out _ _ _ _ HLa.out hB.out).mono ?_); rintro e wC ⟨rfl, rC⟩)
    go_ret
    exact ⟨rfl, hB.out.rel.trans rC.out⟩
  · have k7 : (r == 0) = false := by simpa using hr0
    have HLa := Lib.hid (KRl.out L HF.out)
    go_upto_region 20 with (first
      | (go_at_call 10; (with_reducible refine (HPr.out _).mono ?_); rintro e w5' ⟨rfl, rfl⟩)
      | (go_at_call 10; (with_reducible refine (HPq.out _).mono ?_); rintro e w5' ⟨rfl, rfl⟩)
      | (go_at_call 19; (with_reducible refine (KR.out _ _ _ _ HF.out h5.out).mono ?_); rintro e w6 ⟨S6, rfl, HQ, _⟩))
    go_upto_region 21 with (go_at_call 13; (with_reducible refine (KA.out _ _ _ _ HLa.out HQ.out).mono ?_); rintro e wA ⟨SA, rfl, hA, _⟩)
    go_upto_region 22 with (go_at_call 13; (with_reducible refine (KB.out _ _ _ _ HLa.out hA.out).mono ?_); rintro e wB ⟨SB, rfl, hB, _⟩)
    go_wp2_with (go_at_call 25; (with_reducible refine (KC.out _ _ _ _ HLa.out hB.out).mono ?_); rintro e wC ⟨rfl, rC⟩)
    go_ret
    exact ⟨rfl, hB.out.rel.trans rC.out⟩
end Go.Proofs.Ytminmcledbfchaa
