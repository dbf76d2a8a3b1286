/- The walk of FrameBack, over what the program's Encode and Scan tell. -/
import Derived.Test.YtjbbfcomgglhiaaDoorRecRawWalk
import Derived.Test.YtjbbfcomgglhiaaDoorRecScan
import Derived.Test.YtjbbfcomgglhiaaDoorRecSame
namespace Go.Proofs.YtjbbfcomgglhiaaDoor
open Go.RowKit Go.Lib
set_option linter.unusedVariables false
set_option linter.unusedSimpArgs false

/-- What the program's Scan is to tell. -/
def ScanOk : Prop := ∀ (s : ByteArray), s.size ≤ 2000000 → ∀ w0 w : World, Rel w0 w → Calls Tryd.prog 17 #[.string s] w (ScanPost s w0)
def AwakeOk : Prop := ∀ w0 w : World, Rel w0 w → Calls Tryd.prog 10 #[] w fun e w' => e = .returned (.bool true) ∧ Rel w0 w'
theorem awake_of (h : AwakeOk) (w0 w : World) (hr : Rel w0 w) : Calls Tryd.prog 10 #[] w fun e w' => e = .returned (.bool true) ∧ Rel w0 w' := h w0 w hr
theorem scan_of (h : ScanOk) (s : ByteArray) (hs : s.size ≤ 2000000) (w0 w : World) (hr : Rel w0 w) : Calls Tryd.prog 17 #[.string s] w (ScanPost s w0) := h s hs w0 w hr
theorem recsOf_len (zss : List (List Int)) (ss : List ByteArray) : (recsOf zss ss).length ≤ 12 := by
  unfold recsOf
  rw [rawRecs_len, List.length_take]; omega
theorem recsOf_right (zss : List (List Int)) (ss : List ByteArray) : ∀ r ∈ recsOf zss ss, frRight (pure3 r) := rawRecs_right _ _ _
theorem recsOf_all (zss : List (List Int)) (ss : List ByteArray) : ∀ r ∈ (recsOf zss ss).map pure3, frRight r := by
  intro r h
  obtain ⟨x, hx, rfl⟩ := List.mem_map.1 h
  exact recsOf_right zss ss x hx
theorem frAll_len {l : List (Int × List Int × List UInt8)} (h : ∀ r ∈ l, frRight r) : (frAll l).length ≤ 2466 * l.length := by
  induction l with
  | nil => exact Nat.le_refl 0
  | cons r t ih =>
    have h1 := (frBody_len (h r (List.mem_cons_self ..))).1
    have h2 := ih (fun x hx => h x (List.mem_cons_of_mem _ hx))
    simp only [frAll, List.length_append, List.length_cons, frEnc_len]
    omega
theorem nums_len {r : Int × List Int × ByteArray} (h : frRight (pure3 r)) : r.2.1.length ≤ 1000000000 := by
  have h1 := h.2.2.1
  have h2 : (pure3 r).2.1 = r.2.1 := rfl
  rw [h2] at h1
  omega
theorem recOf_eq (es : List ((Int × List Int × ByteArray) × Option Addr × Nat)) : recOf es = (es.map (·.1)).map pure3 := by
  unfold recOf; rw [List.map_map]; rfl
/-- Frames by the law's own contract, at records of the call's own. -/
theorem frames_own (E : EncOk) {base : Nat} {A : Option Addr} {c : Nat} (es : List ((Int × List Int × ByteArray) × Option Addr × Nat)) (hl : es.length ≤ 1000000000) (hR : ∀ e ∈ es, frRight (pure3 e.1)) (w0 w : World) (hr : Rel w0 w) (hE : ElsOwn w base (.slice A es.length c) es) :
    Calls Tryd.prog 20 #[.slice A es.length c] w fun e w' => e = .returned (.tuple #[.string (B (frAll (recOf es))), .bool true]) ∧ Rel w0 w' := by
  have h := frames_any E A c (es.map (·.1)) (by rw [List.length_map]; exact hl) (Lib.hid fun r hr => by
    obtain ⟨e, he, rfl⟩ := List.mem_map.1 hr
    exact hR e he) w0 w hr (Lib.hid (hE.recs rfl))
  rw [List.length_map] at h
  refine h.mono ?_
  rintro e w' ⟨h1, h2⟩
  rw [recOf_eq]
  exact ⟨h1, h2⟩
theorem same_own {base base' : Nat} {A C : Option Addr} {c d : Nat} (es fs : List ((Int × List Int × ByteArray) × Option Addr × Nat)) (hl : es.length ≤ 1000000000) (hl' : fs.length ≤ 1000000000) (hN : ∀ e ∈ es, e.1.2.1.length ≤ 1000000000) (w0 w : World) (hr : Rel w0 w)
    (hE : ElsOwn w base (.slice A es.length c) es) (hF : ElsOwn w base' (.slice C fs.length d) fs) :
    Calls Tryd.prog 19 #[.slice A es.length c, .slice C fs.length d] w fun e w' => e = .returned (.bool (decide (recOf es = recOf fs))) ∧ Rel w0 w' := by
  have h := same_any A C c d (es.map (·.1)) (fs.map (·.1)) (by rw [List.length_map]; exact hl) (by rw [List.length_map]; exact hl') (Lib.hid fun r hr => by
    obtain ⟨e, he, rfl⟩ := List.mem_map.1 hr
    exact hN e he) w0 w hr (Lib.hid (hE.recs rfl)) (Lib.hid (hF.recs rfl))
  rw [List.length_map, List.length_map] at h
  refine h.mono ?_
  rintro e w' ⟨h1, h2⟩
  rw [h1]
  unfold sameB
  rw [recOf_eq, recOf_eq]
  exact ⟨rfl, h2⟩
/-- What is known of the law's own records. -/
theorem recs_facts {es : List ((Int × List Int × ByteArray) × Option Addr × Nat)} {zss : List (List Int)} {ss : List ByteArray} (h : es.map (·.1) = recsOf zss ss) :
    es.length ≤ 12 ∧ (∀ e ∈ es, frRight (pure3 e.1)) ∧ (∀ e ∈ es, e.1.2.1.length ≤ 1000000000) ∧ (∀ r ∈ recOf es, frRight r) ∧ (B (frAll (recOf es))).size ≤ 29592 := by
  have h1 : ∀ e ∈ es, frRight (pure3 e.1) := fun e he => recsOf_right zss ss e.1 (by rw [← h]; exact List.mem_map.2 ⟨e, he, rfl⟩)
  have h2 : es.length ≤ 12 := by
    have := congrArg List.length h
    rw [List.length_map] at this
    have := recsOf_len zss ss
    omega
  have h3 : ∀ r ∈ recOf es, frRight r := fun r hr => by
    unfold recOf at hr
    obtain ⟨e, he, rfl⟩ := List.mem_map.1 hr
    exact h1 e he
  have h4 := frAll_len h3
  have h5 : (recOf es).length = es.length := by unfold recOf; rw [List.length_map]
  exact ⟨h2, h1, fun e he => nums_len (h1 e he), h3, by rw [B_size]; omega⟩
theorem frames_as (E : EncOk) {base : Nat} {A : Option Addr} {c : Nat} (es : List ((Int × List Int × ByteArray) × Option Addr × Nat)) (hl : es.length ≤ 1000000000) (hR : ∀ e ∈ es, frRight (pure3 e.1)) (S : ByteArray) (hS : Hid (B (frAll (recOf es)) = S)) (w0 w : World) (hr : Rel w0 w) (hE : ElsOwn w base (.slice A es.length c) es) :
    Calls Tryd.prog 20 #[.slice A es.length c] w fun e w' => e = .returned (.tuple #[.string S, .bool true]) ∧ Rel w0 w' := by
  rw [← hS.out]
  exact frames_own E es hl hR w0 w hr hE
theorem rec_len (es : List ((Int × List Int × ByteArray) × Option Addr × Nat)) : (recOf es).length = es.length := by unfold recOf; rw [List.length_map]
theorem back_facts {es fs : List ((Int × List Int × ByteArray) × Option Addr × Nat)} {S : ByteArray} {n : Nat} {err : Int} (hS : B (frAll (recOf es)) = S) (hR : ∀ r ∈ recOf es, frRight r)
    (h : (err = 0 ∧ frScan S.data.toList = (recOf fs, n, true)) ∨ (err = 40 ∧ frScan S.data.toList = (recOf fs, n, false))) : err = 0 ∧ n = S.size ∧ fs.length = es.length ∧ recOf fs = recOf es := by
  have hb := frScan_back hR
  have hl : S.data.toList = frAll (recOf es) := by rw [← hS, B_list]
  have hn : (frAll (recOf es)).length = S.size := by rw [← hS, B_size]
  rw [hl, hb] at h
  rcases h with ⟨h1, h2⟩ | ⟨_, h2⟩
  · have e1 : recOf es = recOf fs := congrArg (fun p => p.1) h2
    have e2 : (frAll (recOf es)).length = n := congrArg (fun p => p.2.1) h2
    exact ⟨h1, by omega, by rw [← rec_len fs, ← rec_len es, e1], e1.symm⟩
  · have e3 : true = false := congrArg (fun p => p.2.2) h2
    cases e3
theorem same_bool {base base' : Nat} {A C : Option Addr} {c d : Nat} (es fs : List ((Int × List Int × ByteArray) × Option Addr × Nat)) (n m : Nat) (hn : Hid (es.length = n)) (hm : Hid (fs.length = m)) (b : Bool) (heq : Hid (decide (recOf es = recOf fs) = b)) (hl : n ≤ 1000000000) (hl' : m ≤ 1000000000) (hN : ∀ e ∈ es, e.1.2.1.length ≤ 1000000000) (w0 w : World) (hr : Rel w0 w)
    (hE : ElsOwn w base (.slice A n c) es) (hF : ElsOwn w base' (.slice C m d) fs) :
    Calls Tryd.prog 19 #[.slice A n c, .slice C m d] w fun e w' => e = .returned (.bool b) ∧ Rel w0 w' := by
  have h1 := hn.out
  have h2 := hm.out
  subst h1
  subst h2
  have h := same_own es fs hl hl' hN w0 w hr hE hF
  rw [heq.out] at h
  exact h
set_option maxRecDepth 100000 in
set_option maxHeartbeats 2000000 in
theorem FrameBack_at (hA : AwakeOk) (hE : EncOk) (hS : ScanOk) (A T : Option Addr) (ca ct : Nat) (zss : List (List Int)) (ss : List ByteArray) (hl : zss.length ≤ 9223372036854775807) (hl' : ss.length ≤ 9223372036854775807) (hz : Hid (∀ zs ∈ zss, zs.length ≤ 9223372036854775807 ∧ w64 zs)) (hss : Hid (∀ s ∈ ss, s.size ≤ 9223372036854775807))
    (w : World) (hr : Rel w w) (hx : Hid (RowsAt w A zss)) (hy : Hid (StrsAt w T ss)) :
    Calls Tryd.prog 4 #[.slice A zss.length ca, .slice T ss.length ct] w fun e w' => e = .returned (.bool true) ∧ Below w.heap.size w w' := by
  have HA := Lib.hid hA
  have HE := Lib.hid hE
  have HS := Lib.hid hS
  have HR := Lib.hid hr
  have L12 := recsOf_len zss ss
  have HRT := Lib.hid (recsOf_right zss ss)
  clear hA hE hS hr
  go_enter Tryd.func4, Tryd.ntmps4
  go_wp2_with (first
    | (go_at_call 10; (with_reducible refine (awake_of HA.out _ _ HR.out).mono ?_); rintro e w1 ⟨rfl, h1⟩)
    | (go_at_call 15; (with_reducible refine (records_any A T ca ct zss ss hl hl' hz hss w _ h1 (Lib.hid (hx.out.rel h1)) (Lib.hid (hy.out.rel h1))).mono ?_); rintro e w2 ⟨es, D, cd, base, rfl, h2, hE2, hes⟩; have F := recs_facts hes; have HF := Lib.hid F.2; have f1 := F.1; clear F hes; obtain ⟨S, hSv⟩ : ∃ S, B (frAll (recOf es)) = S := ⟨_, rfl⟩; have HSV := Lib.hid hSv; have zS : S.size ≤ 29592 := hSv ▸ HF.out.2.2.2; clear hSv)
    | (go_at_call 20; (with_reducible refine (frames_as HE.out es (by omega) HF.out.1 S HSV _ _ h2.self hE2).mono ?_); rintro e w3 ⟨rfl, h3⟩)
    | (go_at_call 17; (with_reducible refine (scan_of HS.out S (by omega) _ _ h3).mono ?_); rintro e w4 ⟨fs, C, cf, n, bf, err, rfl, h4, hF4, hsc⟩; obtain ⟨rfl, rfl, hfl, hfe⟩ := back_facts HSV.out HF.out.2.2.1 hsc; have HFE := Lib.hid hfe; have f2 : fs.length ≤ 12 := Nat.le_trans (Nat.le_of_eq hfl) f1; clear hsc hfe hfl)
    | (go_at_call 19; (with_reducible refine (same_bool es fs es.length fs.length (Lib.hid rfl) (Lib.hid rfl) true (Lib.hid (decide_eq_true HFE.out.symm)) (by omega) (by omega) HF.out.2.1 _ _ h4 (hE2.rel h4) hF4).mono ?_); rintro e w5 ⟨rfl, h5⟩))
  go_ret
  exact ⟨rfl, (h2.trans h5).2⟩
end Go.Proofs.YtjbbfcomgglhiaaDoor
