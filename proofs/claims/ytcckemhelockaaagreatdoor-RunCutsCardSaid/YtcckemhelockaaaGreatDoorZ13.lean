/- The landed value code: which offers may be; What the landed package tree tells of sizes and depths. -/
import Derived.Test.YtcckemhelockaaaGreatDoorZL
import Derived.Test.YtcckemhelockaaaGreatDoorZ00
import Derived.Test.YtcckemhelockaaaGreatDoorZ01
import Derived.Test.YtcckemhelockaaaGreatDoorZ02
import Derived.Test.YtcckemhelockaaaGreatDoorZ03
import Derived.Test.YtcckemhelockaaaGreatDoorZ04
import Derived.Test.YtcckemhelockaaaGreatDoorZ07
import Derived.Test.YtcckemhelockaaaGreatDoorZ08
import Derived.Test.YtcckemhelockaaaGreatDoorZ09
namespace Go.Proofs.YtcckemhelockaaaGreatDoor
open Go.RowKit Go.Lib
set_option linter.unusedVariables false
set_option linter.unusedSimpArgs false
theorem from_twice {os : List Of} {i : Nat} {s : List UInt8} (h : (fromO (os.take i) s).isSome = true) : ∃ k, ∃ hk : k < os.length, k < i ∧ os[k].1 = s := by
  unfold fromO at h
  rw [Option.isSome_map, List.find?_isSome] at h
  obtain ⟨o, ho, he⟩ := h
  obtain ⟨k, hk, rfl⟩ := List.mem_iff_getElem.1 ho
  rw [List.length_take] at hk
  rw [List.getElem_take] at he
  exact ⟨k, by omega, by omega, by simpa using he⟩
theorem from_once {os : List Of} {i : Nat} {s : List UInt8} (h : (fromO (os.take i) s).isSome = false) : ∀ k (hk : k < os.length), k < i → os[k].1 ≠ s := by
  intro k hk hki he
  have : (fromO (os.take i) s).isSome = true := by
    unfold fromO
    rw [Option.isSome_map, List.find?_isSome]
    exact ⟨os[k], by rw [List.mem_iff_getElem]; exact ⟨k, by rw [List.length_take]; omega, by rw [List.getElem_take]⟩, by simpa using he⟩
  rw [h] at this; cases this
set_option maxRecDepth 100000 in
set_option maxHeartbeats 8000000 in
theorem vright9_any (A : Option Addr) (c : Nat) (os : List Of) (w0 w : World) (hr : Rel w0 w) (h : OffArg w A c os) :
    Calls Tryz.prog 31 #[.slice A os.length c] w fun e w' => e = .returned (.bool (offsOk os)) ∧ Rel w0 w' := by
  have HR := Lib.hid hr
  have HS := Lib.hid hr.self
  have HOA := Lib.hid h
  have HA := Lib.hid h.2.2.2
  have HF := Lib.hid h.2.2.1
  have hlc := h.1
  have hcm : c ≤ 9223372036854775807 := by have := h.2.1; unfold maxLen at this; omega
  have hl : os.length ≤ 9223372036854775807 := by omega
  have hfd : ∀ (w : World) (P : Int) (b : Bool), (Instr.field 81 (.agg #[.int .i64 P, .bool b]) 1).run Tryz.prog w = .ok (.bool b) w := fun _ _ _ => by kernel_rfl
  clear h hr
  by_cases h8 : 8 < os.length
  · have HB := Lib.hid (offs_many h8)
    have t1 : decide ((8 : Int) < (os.length : Int)) = true := decide_eq_true (by omega)
    go_enter Tryz.func31, Tryz.ntmps31
    go_wp2_with (fail)
    go_ret
    exact ⟨ret_bool HB.out.symm, HR.out⟩
  have t1 : decide ((8 : Int) < (os.length : Int)) = false := decide_eq_false (by omega)
  go_enter Tryz.func31, Tryz.ntmps31
  go_wp2_with (fail)
  go_loopw [11] (fun i wr => ∃ j : Nat, j ≤ os.length ∧ i = .int .i64 (j : Int) ∧ Hid (offsTo os j = true) ∧ Rel w wr) (fun i _ => os.length - (RowKit.intOf i).toNat)
  case atStart => exact ⟨0, by omega, rfl, Lib.hid rfl, HS.out⟩
  case round =>
    obtain ⟨i, hi, rfl, HN, hRw⟩ := hrel
    have HRw := Lib.hid hRw
    by_cases hlt : i < os.length
    · obtain ⟨g, off, s, p, rfl, c0, c1, ho⟩ := offs_at HA.out hRw i hlt
      have hs : s.length ≤ 9223372036854775807 := by have := (HF.out _ (List.getElem_mem hlt)).1; rw [ho] at this; exact this
      have HO := Lib.hid ho
      have hFr := fun (w' : World) (hh : Rel w w') => vfrom_any s (some ⟨g, off, none⟩) c (os.take i) w' w' hh.self ⟨by rw [List.length_take]; omega, HOA.out.2.1, fun o ho => HF.out o (List.mem_of_mem_take ho), (HA.out.rel hh).take i⟩
      have hti : (os.take i).length = i := by rw [List.length_take]; omega
      rw [hti] at hFr
      obtain ⟨P, hP⟩ : ∃ P, (fromO (os.take i) s).getD 0 = P := ⟨_, rfl⟩
      obtain ⟨tw, htw⟩ : ∃ b, (fromO (os.take i) s).isSome = b := ⟨_, rfl⟩
      unfold TV at hFr
      rw [hP, htw] at hFr
      obtain ⟨X, hX⟩ : ∃ X, B s = X := ⟨_, rfl⟩
      obtain ⟨b, hb⟩ : ∃ b, isName s = b := ⟨_, rfl⟩
      have hC := fun (w0 w : World) (hr : Rel w0 w) => lname_list s (by omega) w0 w hr
      rw [hX, hb] at hC
      rw [hX] at c0 hFr
      have HC := Lib.hid hC
      have HX := Lib.hid hX
      have HBn := Lib.hid hb
      have HTw := Lib.hid htw
      have HBx := Lib.hid (off_box wr X p)
      have HAx := Lib.hid (hRw.self.alloc (.cells #[.string X, .int .i64 p] 53))
      have HFr := Lib.hid (fun (w' : World) (hh : Rel (wr.alloc (.cells #[.string X, .int .i64 p] 53)) w') => hFr w' ((HRw.out.trans HAx.out).trans hh))
      have HNm := Lib.hid (fun (w' : World) (hh : Rel (wr.alloc (.cells #[.string X, .int .i64 p] 53)) w') => hC w' w' hh.self)
      obtain ⟨V, hV⟩ : ∃ V, wr.alloc (.cells #[.string X, .int .i64 p] 53) = V := ⟨_, rfl⟩
      rw [hV] at HBx HAx HFr HNm
      have hki : (i : Int) ≤ (c : Int) := by omega
      have hki2 : i ≤ c := by omega
      have hk0 : (0 : Int) ≤ (i : Int) := by omega
      clear ho hX hb hRw hC hFr hP htw
      cases tw with
      | true =>
        have HB := Lib.hid (offs_bad hlt (.inr (by obtain ⟨k, hk, hki, he⟩ := from_twice HTw.out; exact ⟨k, hk, hki, by rw [HO.out]; exact he⟩)))
        go_upto_region 6 with (fail)
        refine wp_region_held_drew (S := (fun w' => Rel V w')) (by kernel_rfl) HAx.out.right2.drew (fun hHeld => ?_)
        refine held_take (i := 0) (v := ?_) (some 16) rfl rfl (by kernel_rfl) (by kernel_rfl) (by kernel_rfl) (fun _ _ _ h => h) (Or.inl ⟨by rfl, ?_⟩) hHeld ?_
        rotate_left 1
        · intro w' (h : Rel V w'); obtain ⟨⟨z0, z1⟩, _⟩ := (HBx.out.rel h).two; go_simp; try with_reducible rfl
        try simp only [Act.put, List.setIfInBounds_toArray, List.set_cons_zero, List.set_cons_succ]
        refine held_take (i := 1) (v := ?_) (some 17) rfl rfl (by kernel_rfl) (by kernel_rfl) (by kernel_rfl) (fun _ _ _ h => h) (Or.inl ⟨by rfl, ?_⟩) hHeld ?_
        rotate_left 1
        · intro w' (h : Rel V w'); obtain ⟨⟨z0, z1⟩, _⟩ := (HBx.out.rel h).two; go_simp; try with_reducible rfl
        try simp only [Act.put, List.setIfInBounds_toArray, List.set_cons_zero, List.set_cons_succ]
        refine held_take (i := 2) (v := ?_) (some 18) rfl rfl (by kernel_rfl) (by kernel_rfl) (by kernel_rfl) (fun _ _ _ h => h) (Or.inl ⟨by rfl, ?_⟩) hHeld ?_
        rotate_left 1
        · intro w' (h : Rel V w'); obtain ⟨⟨z0, z1⟩, _⟩ := (HBx.out.rel h).two; go_simp; try with_reducible rfl
        try simp only [Act.put, List.setIfInBounds_toArray, List.set_cons_zero, List.set_cons_succ]
        refine held_take (i := 3) (v := ?_) (some 19) rfl rfl (by kernel_rfl) (by kernel_rfl) (by kernel_rfl) (fun _ _ _ h => h) (Or.inl ⟨by rfl, ?_⟩) hHeld ?_
        rotate_left 1
        · intro w' (h : Rel V w'); obtain ⟨⟨z0, z1⟩, _⟩ := (HBx.out.rel h).two; go_simp; try with_reducible rfl
        try simp only [Act.put, List.setIfInBounds_toArray, List.set_cons_zero, List.set_cons_succ]
        refine held_take (i := 4) (v := ?_) (some 20) rfl rfl (by kernel_rfl) (by kernel_rfl) (by kernel_rfl) (fun _ _ _ h => h) (Or.inl ⟨by rfl, ?_⟩) hHeld ?_
        rotate_left 1
        · intro w' (h : Rel V w'); obtain ⟨⟨z0, z1⟩, _⟩ := (HBx.out.rel h).two; go_simp; try with_reducible rfl
        try simp only [Act.put, List.setIfInBounds_toArray, List.set_cons_zero, List.set_cons_succ]
        refine held_one (j := 5) (by kernel_rfl) rfl (fun K hK => ?_)
        try simp only [List.getElem_toArray, List.getElem_cons_succ, List.getElem_cons_zero]
        rw [if_pos (by rfl)]
        go_simp
        go_at_call 50
        (with_reducible refine (HFr.out _ hHeld).mono ?_)
        rintro e w1 ⟨rfl, h1⟩
        refine hK.out _ _ (hHeld.trans h1) (fun hHeld => ?_)
        clear hK K
        try simp only [Act.put, List.setIfInBounds_toArray, List.set_cons_zero, List.set_cons_succ]
        refine held_take (i := 6) (v := ?_) (some 22) rfl rfl (by kernel_rfl) (by kernel_rfl) (by kernel_rfl) (fun _ _ _ h => h) (Or.inl ⟨by rfl, ?_⟩) hHeld ?_
        rotate_left 1
        · intro w' (h : Rel V w'); obtain ⟨⟨z0, z1⟩, _⟩ := (HBx.out.rel h).two; go_simp; try with_reducible rfl
        try simp only [Act.put, List.setIfInBounds_toArray, List.set_cons_zero, List.set_cons_succ]
        refine held_take (i := 7) (v := ?_) (some 5) rfl rfl (by kernel_rfl) (by kernel_rfl) (by kernel_rfl) (fun _ _ _ h => h) (Or.inl ⟨by rfl, ?_⟩) hHeld ?_
        rotate_left 1
        · intro w' (h : Rel V w'); obtain ⟨⟨z0, z1⟩, _⟩ := (HBx.out.rel h).two; go_simp; try with_reducible rfl
        try simp only [Act.put, List.setIfInBounds_toArray, List.set_cons_zero, List.set_cons_succ]
        refine wpAnyH_done (by kernel_rfl) ?_ _
        have RQ := Lib.hid hHeld
        go_wp2_with (fail)
        go_ret
        exact ⟨ret_bool HB.out.symm, ((HR.out.trans HRw.out).trans HAx.out).trans RQ.out⟩
      | false =>
        have HOnce := Lib.hid (fun (k : Nat) (hk : k < os.length) (hki : k < i) => show os[k].1 ≠ os[i].1 by rw [HO.out]; exact from_once HTw.out k hk hki)
        cases b with
        | false =>
          have HB := Lib.hid (offs_bad hlt (.inl (offOk_mk HO.out false (by rw [HBn.out]; rfl))))
          go_upto_region 6 with (fail)
          refine wp_region_held_drew (S := (fun w' => Rel V w')) (by kernel_rfl) HAx.out.right2.drew (fun hHeld => ?_)
          refine held_take (i := 0) (v := ?_) (some 16) rfl rfl (by kernel_rfl) (by kernel_rfl) (by kernel_rfl) (fun _ _ _ h => h) (Or.inl ⟨by rfl, ?_⟩) hHeld ?_
          rotate_left 1
          · intro w' (h : Rel V w'); obtain ⟨⟨z0, z1⟩, _⟩ := (HBx.out.rel h).two; go_simp; try with_reducible rfl
          try simp only [Act.put, List.setIfInBounds_toArray, List.set_cons_zero, List.set_cons_succ]
          refine held_take (i := 1) (v := ?_) (some 17) rfl rfl (by kernel_rfl) (by kernel_rfl) (by kernel_rfl) (fun _ _ _ h => h) (Or.inl ⟨by rfl, ?_⟩) hHeld ?_
          rotate_left 1
          · intro w' (h : Rel V w'); obtain ⟨⟨z0, z1⟩, _⟩ := (HBx.out.rel h).two; go_simp; try with_reducible rfl
          try simp only [Act.put, List.setIfInBounds_toArray, List.set_cons_zero, List.set_cons_succ]
          refine held_take (i := 2) (v := ?_) (some 18) rfl rfl (by kernel_rfl) (by kernel_rfl) (by kernel_rfl) (fun _ _ _ h => h) (Or.inl ⟨by rfl, ?_⟩) hHeld ?_
          rotate_left 1
          · intro w' (h : Rel V w'); obtain ⟨⟨z0, z1⟩, _⟩ := (HBx.out.rel h).two; go_simp; try with_reducible rfl
          try simp only [Act.put, List.setIfInBounds_toArray, List.set_cons_zero, List.set_cons_succ]
          refine held_take (i := 3) (v := ?_) (some 19) rfl rfl (by kernel_rfl) (by kernel_rfl) (by kernel_rfl) (fun _ _ _ h => h) (Or.inl ⟨by rfl, ?_⟩) hHeld ?_
          rotate_left 1
          · intro w' (h : Rel V w'); obtain ⟨⟨z0, z1⟩, _⟩ := (HBx.out.rel h).two; go_simp; try with_reducible rfl
          try simp only [Act.put, List.setIfInBounds_toArray, List.set_cons_zero, List.set_cons_succ]
          refine held_take (i := 4) (v := ?_) (some 20) rfl rfl (by kernel_rfl) (by kernel_rfl) (by kernel_rfl) (fun _ _ _ h => h) (Or.inl ⟨by rfl, ?_⟩) hHeld ?_
          rotate_left 1
          · intro w' (h : Rel V w'); obtain ⟨⟨z0, z1⟩, _⟩ := (HBx.out.rel h).two; go_simp; try with_reducible rfl
          try simp only [Act.put, List.setIfInBounds_toArray, List.set_cons_zero, List.set_cons_succ]
          refine held_one (j := 5) (by kernel_rfl) rfl (fun K hK => ?_)
          try simp only [List.getElem_toArray, List.getElem_cons_succ, List.getElem_cons_zero]
          rw [if_pos (by rfl)]
          go_simp
          go_at_call 50
          (with_reducible refine (HFr.out _ hHeld).mono ?_)
          rintro e w1 ⟨rfl, h1⟩
          refine hK.out _ _ (hHeld.trans h1) (fun hHeld => ?_)
          clear hK K
          try simp only [Act.put, List.setIfInBounds_toArray, List.set_cons_zero, List.set_cons_succ]
          refine held_take (i := 6) (v := ?_) (some 22) rfl rfl (by kernel_rfl) (by kernel_rfl) (by kernel_rfl) (fun _ _ _ h => h) (Or.inl ⟨by rfl, ?_⟩) hHeld ?_
          rotate_left 1
          · intro w' (h : Rel V w'); obtain ⟨⟨z0, z1⟩, _⟩ := (HBx.out.rel h).two; go_simp; try with_reducible rfl
          try simp only [Act.put, List.setIfInBounds_toArray, List.set_cons_zero, List.set_cons_succ]
          refine held_take (i := 7) (v := ?_) (some 5) rfl rfl (by kernel_rfl) (by kernel_rfl) (by kernel_rfl) (fun _ _ _ h => h) (Or.inl ⟨by rfl, ?_⟩) hHeld ?_
          rotate_left 1
          · intro w' (h : Rel V w'); obtain ⟨⟨z0, z1⟩, _⟩ := (HBx.out.rel h).two; go_simp; try with_reducible rfl
          try simp only [Act.put, List.setIfInBounds_toArray, List.set_cons_zero, List.set_cons_succ]
          refine wpAnyH_done (by kernel_rfl) ?_ _
          have RQ := Lib.hid hHeld
          obtain ⟨⟨n0, n1⟩, _⟩ := (HBx.out.rel RQ.out).two
          go_wp2_with (go_at_call 51; (with_reducible refine (HNm.out _ RQ.out).mono ?_); rintro e w2 ⟨rfl, h2⟩; obtain ⟨⟨m0, m1⟩, _⟩ := (HBx.out.rel (RQ.out.trans h2)).two)
          go_ret
          exact ⟨ret_bool HB.out.symm, (((HR.out.trans HRw.out).trans HAx.out).trans RQ.out).trans h2⟩
        | true =>
          by_cases p1 : p < 1
          · have t2 : decide (p < 1) = true := decide_eq_true p1
            have HB := Lib.hid (offs_bad hlt (.inl (offOk_mk HO.out false (by rw [HBn.out]; simp; omega))))
            go_upto_region 6 with (fail)
            refine wp_region_held_drew (S := (fun w' => Rel V w')) (by kernel_rfl) HAx.out.right2.drew (fun hHeld => ?_)
            refine held_take (i := 0) (v := ?_) (some 16) rfl rfl (by kernel_rfl) (by kernel_rfl) (by kernel_rfl) (fun _ _ _ h => h) (Or.inl ⟨by rfl, ?_⟩) hHeld ?_
            rotate_left 1
            · intro w' (h : Rel V w'); obtain ⟨⟨z0, z1⟩, _⟩ := (HBx.out.rel h).two; go_simp; try with_reducible rfl
            try simp only [Act.put, List.setIfInBounds_toArray, List.set_cons_zero, List.set_cons_succ]
            refine held_take (i := 1) (v := ?_) (some 17) rfl rfl (by kernel_rfl) (by kernel_rfl) (by kernel_rfl) (fun _ _ _ h => h) (Or.inl ⟨by rfl, ?_⟩) hHeld ?_
            rotate_left 1
            · intro w' (h : Rel V w'); obtain ⟨⟨z0, z1⟩, _⟩ := (HBx.out.rel h).two; go_simp; try with_reducible rfl
            try simp only [Act.put, List.setIfInBounds_toArray, List.set_cons_zero, List.set_cons_succ]
            refine held_take (i := 2) (v := ?_) (some 18) rfl rfl (by kernel_rfl) (by kernel_rfl) (by kernel_rfl) (fun _ _ _ h => h) (Or.inl ⟨by rfl, ?_⟩) hHeld ?_
            rotate_left 1
            · intro w' (h : Rel V w'); obtain ⟨⟨z0, z1⟩, _⟩ := (HBx.out.rel h).two; go_simp; try with_reducible rfl
            try simp only [Act.put, List.setIfInBounds_toArray, List.set_cons_zero, List.set_cons_succ]
            refine held_take (i := 3) (v := ?_) (some 19) rfl rfl (by kernel_rfl) (by kernel_rfl) (by kernel_rfl) (fun _ _ _ h => h) (Or.inl ⟨by rfl, ?_⟩) hHeld ?_
            rotate_left 1
            · intro w' (h : Rel V w'); obtain ⟨⟨z0, z1⟩, _⟩ := (HBx.out.rel h).two; go_simp; try with_reducible rfl
            try simp only [Act.put, List.setIfInBounds_toArray, List.set_cons_zero, List.set_cons_succ]
            refine held_take (i := 4) (v := ?_) (some 20) rfl rfl (by kernel_rfl) (by kernel_rfl) (by kernel_rfl) (fun _ _ _ h => h) (Or.inl ⟨by rfl, ?_⟩) hHeld ?_
            rotate_left 1
            · intro w' (h : Rel V w'); obtain ⟨⟨z0, z1⟩, _⟩ := (HBx.out.rel h).two; go_simp; try with_reducible rfl
            try simp only [Act.put, List.setIfInBounds_toArray, List.set_cons_zero, List.set_cons_succ]
            refine held_one (j := 5) (by kernel_rfl) rfl (fun K hK => ?_)
            try simp only [List.getElem_toArray, List.getElem_cons_succ, List.getElem_cons_zero]
            rw [if_pos (by rfl)]
            go_simp
            go_at_call 50
            (with_reducible refine (HFr.out _ hHeld).mono ?_)
            rintro e w1 ⟨rfl, h1⟩
            refine hK.out _ _ (hHeld.trans h1) (fun hHeld => ?_)
            clear hK K
            try simp only [Act.put, List.setIfInBounds_toArray, List.set_cons_zero, List.set_cons_succ]
            refine held_take (i := 6) (v := ?_) (some 22) rfl rfl (by kernel_rfl) (by kernel_rfl) (by kernel_rfl) (fun _ _ _ h => h) (Or.inl ⟨by rfl, ?_⟩) hHeld ?_
            rotate_left 1
            · intro w' (h : Rel V w'); obtain ⟨⟨z0, z1⟩, _⟩ := (HBx.out.rel h).two; go_simp; try with_reducible rfl
            try simp only [Act.put, List.setIfInBounds_toArray, List.set_cons_zero, List.set_cons_succ]
            refine held_take (i := 7) (v := ?_) (some 5) rfl rfl (by kernel_rfl) (by kernel_rfl) (by kernel_rfl) (fun _ _ _ h => h) (Or.inl ⟨by rfl, ?_⟩) hHeld ?_
            rotate_left 1
            · intro w' (h : Rel V w'); obtain ⟨⟨z0, z1⟩, _⟩ := (HBx.out.rel h).two; go_simp; try with_reducible rfl
            try simp only [Act.put, List.setIfInBounds_toArray, List.set_cons_zero, List.set_cons_succ]
            refine wpAnyH_done (by kernel_rfl) ?_ _
            have RQ := Lib.hid hHeld
            obtain ⟨⟨n0, n1⟩, _⟩ := (HBx.out.rel RQ.out).two
            go_wp2_with (go_at_call 51; (with_reducible refine (HNm.out _ RQ.out).mono ?_); rintro e w2 ⟨rfl, h2⟩; obtain ⟨⟨m0, m1⟩, _⟩ := (HBx.out.rel (RQ.out.trans h2)).two)
            go_ret
            exact ⟨ret_bool HB.out.symm, (((HR.out.trans HRw.out).trans HAx.out).trans RQ.out).trans h2⟩
          · have t2 : decide (p < 1) = false := decide_eq_false p1
            by_cases p2 : 1000000000000 < p
            · have t3 : decide (1000000000000 < p) = true := decide_eq_true p2
              have HB := Lib.hid (offs_bad hlt (.inl (offOk_mk HO.out false (by rw [HBn.out]; simp; omega))))
              go_upto_region 6 with (fail)
              refine wp_region_held_drew (S := (fun w' => Rel V w')) (by kernel_rfl) HAx.out.right2.drew (fun hHeld => ?_)
              refine held_take (i := 0) (v := ?_) (some 16) rfl rfl (by kernel_rfl) (by kernel_rfl) (by kernel_rfl) (fun _ _ _ h => h) (Or.inl ⟨by rfl, ?_⟩) hHeld ?_
              rotate_left 1
              · intro w' (h : Rel V w'); obtain ⟨⟨z0, z1⟩, _⟩ := (HBx.out.rel h).two; go_simp; try with_reducible rfl
              try simp only [Act.put, List.setIfInBounds_toArray, List.set_cons_zero, List.set_cons_succ]
              refine held_take (i := 1) (v := ?_) (some 17) rfl rfl (by kernel_rfl) (by kernel_rfl) (by kernel_rfl) (fun _ _ _ h => h) (Or.inl ⟨by rfl, ?_⟩) hHeld ?_
              rotate_left 1
              · intro w' (h : Rel V w'); obtain ⟨⟨z0, z1⟩, _⟩ := (HBx.out.rel h).two; go_simp; try with_reducible rfl
              try simp only [Act.put, List.setIfInBounds_toArray, List.set_cons_zero, List.set_cons_succ]
              refine held_take (i := 2) (v := ?_) (some 18) rfl rfl (by kernel_rfl) (by kernel_rfl) (by kernel_rfl) (fun _ _ _ h => h) (Or.inl ⟨by rfl, ?_⟩) hHeld ?_
              rotate_left 1
              · intro w' (h : Rel V w'); obtain ⟨⟨z0, z1⟩, _⟩ := (HBx.out.rel h).two; go_simp; try with_reducible rfl
              try simp only [Act.put, List.setIfInBounds_toArray, List.set_cons_zero, List.set_cons_succ]
              refine held_take (i := 3) (v := ?_) (some 19) rfl rfl (by kernel_rfl) (by kernel_rfl) (by kernel_rfl) (fun _ _ _ h => h) (Or.inl ⟨by rfl, ?_⟩) hHeld ?_
              rotate_left 1
              · intro w' (h : Rel V w'); obtain ⟨⟨z0, z1⟩, _⟩ := (HBx.out.rel h).two; go_simp; try with_reducible rfl
              try simp only [Act.put, List.setIfInBounds_toArray, List.set_cons_zero, List.set_cons_succ]
              refine held_take (i := 4) (v := ?_) (some 20) rfl rfl (by kernel_rfl) (by kernel_rfl) (by kernel_rfl) (fun _ _ _ h => h) (Or.inl ⟨by rfl, ?_⟩) hHeld ?_
              rotate_left 1
              · intro w' (h : Rel V w'); obtain ⟨⟨z0, z1⟩, _⟩ := (HBx.out.rel h).two; go_simp; try with_reducible rfl
              try simp only [Act.put, List.setIfInBounds_toArray, List.set_cons_zero, List.set_cons_succ]
              refine held_one (j := 5) (by kernel_rfl) rfl (fun K hK => ?_)
              try simp only [List.getElem_toArray, List.getElem_cons_succ, List.getElem_cons_zero]
              rw [if_pos (by rfl)]
              go_simp
              go_at_call 50
              (with_reducible refine (HFr.out _ hHeld).mono ?_)
              rintro e w1 ⟨rfl, h1⟩
              refine hK.out _ _ (hHeld.trans h1) (fun hHeld => ?_)
              clear hK K
              try simp only [Act.put, List.setIfInBounds_toArray, List.set_cons_zero, List.set_cons_succ]
              refine held_take (i := 6) (v := ?_) (some 22) rfl rfl (by kernel_rfl) (by kernel_rfl) (by kernel_rfl) (fun _ _ _ h => h) (Or.inl ⟨by rfl, ?_⟩) hHeld ?_
              rotate_left 1
              · intro w' (h : Rel V w'); obtain ⟨⟨z0, z1⟩, _⟩ := (HBx.out.rel h).two; go_simp; try with_reducible rfl
              try simp only [Act.put, List.setIfInBounds_toArray, List.set_cons_zero, List.set_cons_succ]
              refine held_take (i := 7) (v := ?_) (some 5) rfl rfl (by kernel_rfl) (by kernel_rfl) (by kernel_rfl) (fun _ _ _ h => h) (Or.inl ⟨by rfl, ?_⟩) hHeld ?_
              rotate_left 1
              · intro w' (h : Rel V w'); obtain ⟨⟨z0, z1⟩, _⟩ := (HBx.out.rel h).two; go_simp; try with_reducible rfl
              try simp only [Act.put, List.setIfInBounds_toArray, List.set_cons_zero, List.set_cons_succ]
              refine wpAnyH_done (by kernel_rfl) ?_ _
              have RQ := Lib.hid hHeld
              obtain ⟨⟨n0, n1⟩, _⟩ := (HBx.out.rel RQ.out).two
              go_wp2_with (go_at_call 51; (with_reducible refine (HNm.out _ RQ.out).mono ?_); rintro e w2 ⟨rfl, h2⟩; obtain ⟨⟨m0, m1⟩, _⟩ := (HBx.out.rel (RQ.out.trans h2)).two)
              go_ret
              exact ⟨ret_bool HB.out.symm, (((HR.out.trans HRw.out).trans HAx.out).trans RQ.out).trans h2⟩
            · have t3 : decide (1000000000000 < p) = false := decide_eq_false p2
              have HOk := Lib.hid (offOk_mk HO.out true (by rw [HBn.out]; simp; omega))
              have HN2 := Lib.hid (offsTo_step hlt HN.out HOk.out HOnce.out)
              go_upto_region 6 with (fail)
              refine wp_region_held_drew (S := (fun w' => Rel V w')) (by kernel_rfl) HAx.out.right2.drew (fun hHeld => ?_)
              refine held_take (i := 0) (v := ?_) (some 16) rfl rfl (by kernel_rfl) (by kernel_rfl) (by kernel_rfl) (fun _ _ _ h => h) (Or.inl ⟨by rfl, ?_⟩) hHeld ?_
              rotate_left 1
              · intro w' (h : Rel V w'); obtain ⟨⟨z0, z1⟩, _⟩ := (HBx.out.rel h).two; go_simp; try with_reducible rfl
              try simp only [Act.put, List.setIfInBounds_toArray, List.set_cons_zero, List.set_cons_succ]
              refine held_take (i := 1) (v := ?_) (some 17) rfl rfl (by kernel_rfl) (by kernel_rfl) (by kernel_rfl) (fun _ _ _ h => h) (Or.inl ⟨by rfl, ?_⟩) hHeld ?_
              rotate_left 1
              · intro w' (h : Rel V w'); obtain ⟨⟨z0, z1⟩, _⟩ := (HBx.out.rel h).two; go_simp; try with_reducible rfl
              try simp only [Act.put, List.setIfInBounds_toArray, List.set_cons_zero, List.set_cons_succ]
              refine held_take (i := 2) (v := ?_) (some 18) rfl rfl (by kernel_rfl) (by kernel_rfl) (by kernel_rfl) (fun _ _ _ h => h) (Or.inl ⟨by rfl, ?_⟩) hHeld ?_
              rotate_left 1
              · intro w' (h : Rel V w'); obtain ⟨⟨z0, z1⟩, _⟩ := (HBx.out.rel h).two; go_simp; try with_reducible rfl
              try simp only [Act.put, List.setIfInBounds_toArray, List.set_cons_zero, List.set_cons_succ]
              refine held_take (i := 3) (v := ?_) (some 19) rfl rfl (by kernel_rfl) (by kernel_rfl) (by kernel_rfl) (fun _ _ _ h => h) (Or.inl ⟨by rfl, ?_⟩) hHeld ?_
              rotate_left 1
              · intro w' (h : Rel V w'); obtain ⟨⟨z0, z1⟩, _⟩ := (HBx.out.rel h).two; go_simp; try with_reducible rfl
              try simp only [Act.put, List.setIfInBounds_toArray, List.set_cons_zero, List.set_cons_succ]
              refine held_take (i := 4) (v := ?_) (some 20) rfl rfl (by kernel_rfl) (by kernel_rfl) (by kernel_rfl) (fun _ _ _ h => h) (Or.inl ⟨by rfl, ?_⟩) hHeld ?_
              rotate_left 1
              · intro w' (h : Rel V w'); obtain ⟨⟨z0, z1⟩, _⟩ := (HBx.out.rel h).two; go_simp; try with_reducible rfl
              try simp only [Act.put, List.setIfInBounds_toArray, List.set_cons_zero, List.set_cons_succ]
              refine held_one (j := 5) (by kernel_rfl) rfl (fun K hK => ?_)
              try simp only [List.getElem_toArray, List.getElem_cons_succ, List.getElem_cons_zero]
              rw [if_pos (by rfl)]
              go_simp
              go_at_call 50
              (with_reducible refine (HFr.out _ hHeld).mono ?_)
              rintro e w1 ⟨rfl, h1⟩
              refine hK.out _ _ (hHeld.trans h1) (fun hHeld => ?_)
              clear hK K
              try simp only [Act.put, List.setIfInBounds_toArray, List.set_cons_zero, List.set_cons_succ]
              refine held_take (i := 6) (v := ?_) (some 22) rfl rfl (by kernel_rfl) (by kernel_rfl) (by kernel_rfl) (fun _ _ _ h => h) (Or.inl ⟨by rfl, ?_⟩) hHeld ?_
              rotate_left 1
              · intro w' (h : Rel V w'); obtain ⟨⟨z0, z1⟩, _⟩ := (HBx.out.rel h).two; go_simp; try with_reducible rfl
              try simp only [Act.put, List.setIfInBounds_toArray, List.set_cons_zero, List.set_cons_succ]
              refine held_take (i := 7) (v := ?_) (some 5) rfl rfl (by kernel_rfl) (by kernel_rfl) (by kernel_rfl) (fun _ _ _ h => h) (Or.inl ⟨by rfl, ?_⟩) hHeld ?_
              rotate_left 1
              · intro w' (h : Rel V w'); obtain ⟨⟨z0, z1⟩, _⟩ := (HBx.out.rel h).two; go_simp; try with_reducible rfl
              try simp only [Act.put, List.setIfInBounds_toArray, List.set_cons_zero, List.set_cons_succ]
              refine wpAnyH_done (by kernel_rfl) ?_ _
              have RQ := Lib.hid hHeld
              obtain ⟨⟨n0, n1⟩, _⟩ := (HBx.out.rel RQ.out).two
              go_wp2_with (go_at_call 51; (with_reducible refine (HNm.out _ RQ.out).mono ?_); rintro e w2 ⟨rfl, h2⟩; obtain ⟨⟨m0, m1⟩, _⟩ := (HBx.out.rel (RQ.out.trans h2)).two)
              go_roundw
              case rel => exact ⟨i + 1, by omega, by go_num, HN2, ((HRw.out.trans HAx.out).trans RQ.out).trans h2⟩
              case measure => simp [RowKit.intOf]; omega
    · obtain rfl : i = os.length := by omega
      have HB := Lib.hid (offs_full (by omega) HN.out)
      go_wp2_with (fail)
      go_ret
      exact ⟨ret_bool HB.out.symm, HR.out.trans HRw.out⟩
end Go.Proofs.YtcckemhelockaaaGreatDoor

namespace Go.Proofs.YtcckemhelockaaaGreatDoor
open Go.RowKit Go.Lib
set_option linter.unusedVariables false
set_option linter.unusedSimpArgs false
theorem len_le : ∀ l : List Ex, l.length ≤ sizes l := fun l => by
  induction l with
  | nil => simp
  | cons x t ih => rw [sizes_cons, List.length_cons]; have := size_pos x; omega
end Go.Proofs.YtcckemhelockaaaGreatDoor
