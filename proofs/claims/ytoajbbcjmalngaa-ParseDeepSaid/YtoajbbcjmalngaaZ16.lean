/- The landed parser: an argument, a condition put into the expression being built: the walks. -/
import Derived.Test.YtoajbbcjmalngaaZ15
namespace Go.Proofs.Ytoajbbcjmalngaa
open Go.RowKit Go.Lib
set_option linter.unusedVariables false
set_option linter.unusedSimpArgs false

set_option maxRecDepth 100000 in
set_option maxHeartbeats 1000000 in
theorem parg_yes (d : Nat) (E : ExprOk d) (V U : World) (g gx a : Nat) (had : a + d = 32) (x : Ex) (ts : List Tok) (hx : x.l.length ≤ 2) (y : Ex) (r : List Tok) (hr : exprT d false ts = .ok (y, r)) (w : World) (h : InP V U w g gx a x ts) :
    Calls Try.prog 52 #[.pointer (some ⟨g, 0, none⟩), .pointer (some ⟨gx, 0, none⟩)] w (PcPost V U g gx a (stepP (exprT d) .ar x ts)) := by
  obtain ⟨i0, hi, hz0, hz1, hz2'⟩ := info_parts ex_info
  have HI := Lib.hid h
  have HR := Lib.hid (show stepP (exprT d) .ar x ts = .ok (x.push y, r) by unfold stepP; rw [hr])
  have HR0 := Lib.hid hr
  obtain ⟨hs, hg, hU, hG, A, c, es, hX⟩ := h
  have HD := Lib.hid (hs.V.1.self.drew)
  have HDA := Lib.hid (hs.V.1.self.alloc (.cells #[.int .i64 0, .int .i64 0, .string ⟨#[]⟩, .slice none 0 0] 30)).drew
  have HXX := Lib.hid hX
  obtain ⟨n, hn⟩ : ∃ n, es.length = n := ⟨_, rfl⟩
  have HLen := Lib.hid hn
  have hn2 : n ≤ 2 := by rw [← hn, hX.2.2.1]; exact hx
  have hgx := hX.lt
  have HK := Lib.hid hX.1
  have hbk := hX.1
  rw [hn] at HK hbk
  obtain ⟨⟨c0, c1, c2, c3⟩, f0, f1, f2, f3⟩ := hbk.four
  have HS := Lib.hid hs
  clear hr hs hX hbk hG hn
  go_enter Try.func52, Try.ntmps52
  go_wp2_with (fail)
  refine wp_region_any (by kernel_rfl) ?_
  change wpAny _ _ _ _ _ _ _ w.drew
  refine any_take (i := 0) (v := ?_) (some 4) rfl rfl (by kernel_rfl) (by kernel_rfl) (by kernel_rfl) (fun _ _ _ h => h) (Or.inl ⟨by rfl, ?_⟩) ?_
  rotate_left 1
  · intro w'; go_simp; try with_reducible rfl
  try simp only [Act.put, List.setIfInBounds_toArray, List.set_cons_zero, List.set_cons_succ]
  refine any_take (i := 1) (v := ?_) (some 5) rfl rfl (by kernel_rfl) (by kernel_rfl) (by kernel_rfl) (fun _ _ _ h => h) (Or.inl ⟨by rfl, ?_⟩) ?_
  rotate_left 1
  · intro w'; go_simp; try with_reducible rfl
  try simp only [Act.put, List.setIfInBounds_toArray, List.set_cons_zero, List.set_cons_succ]
  refine any_take (i := 2) (v := ?_) (some 6) rfl rfl (by kernel_rfl) (by kernel_rfl) (by kernel_rfl) (fun _ _ _ h => h) (Or.inl ⟨by rfl, ?_⟩) ?_
  rotate_left 1
  · intro w'; go_simp; try with_reducible rfl
  try simp only [Act.put, List.setIfInBounds_toArray, List.set_cons_zero, List.set_cons_succ]
  refine any_take (i := 4) (v := ?_) (some 8) rfl rfl (by kernel_rfl) (by kernel_rfl) (by kernel_rfl) (fun _ _ _ h => h) (Or.inl ⟨by rfl, ?_⟩) ?_
  rotate_left 1
  · intro w'; go_simp; try with_reducible rfl
  try simp only [Act.put, List.setIfInBounds_toArray, List.set_cons_zero, List.set_cons_succ]
  refine till_take (i := 3) (v := ?_) (S := fun w' => w'.cell? ⟨gx, 3, none⟩ = some (.slice A n c)) (some 7) rfl rfl (by kernel_rfl) (by kernel_rfl) (by kernel_rfl) (fun _ _ _ h => h) (Or.inl ⟨by rfl, ?_⟩) c3 ?_
  rotate_left 1
  · intro w' hSw; go_simp; try with_reducible rfl
  try simp only [Act.put, List.setIfInBounds_toArray, List.set_cons_zero, List.set_cons_succ]
  refine till_move (q := 6) (v := ?_) (some 10) rfl rfl (by kernel_rfl) (by kernel_rfl) (by kernel_rfl) (by kernel_rfl) (fun _ _ _ h => h) (Or.inl ⟨by rfl, ?_⟩) ?_
  rotate_left 1
  · intro w'; go_simp; try with_reducible rfl
  try simp only [Act.put, List.setIfInBounds_toArray, List.set_cons_zero, List.set_cons_succ]
  refine till_two (j := 5) (k := 7) (by kernel_rfl) rfl rfl (fun K hK => ?_) (fun K hK => ?_)
  · skip
    try simp only [List.getElem_toArray, List.getElem_cons_succ, List.getElem_cons_zero]
    rw [if_pos (by rfl)]
    go_simp
    go_at_call 34
    (with_reducible refine (ex_yes E had (HS.out.rel HD.out) HR0.out).mono ?_)
    rintro e w2 ⟨vx, rfl, ex, s2, g2⟩
    have K2 := HK.out.drew.grown g2 (fun e => by injection e; omega)
    have HM := Lib.hid (mid_one HI.out HXX.out HD.out g2 s2 ex (.cells #[.int .i64 0, .int .i64 0, .string ⟨#[]⟩, .slice none 0 0] 30))
    have HZb := Lib.hid (Bk.new w2 30 #[.int .i64 0, .int .i64 0, .string ⟨#[]⟩, .slice none 0 0])
    refine hK.out _ _ (K2.cell 3) ?_
    clear hK K
    try simp only [Act.put, List.setIfInBounds_toArray, List.set_cons_zero, List.set_cons_succ]
    refine till_one (j := 7) (by kernel_rfl) rfl (fun K hK => ?_)
    try simp only [List.getElem_toArray, List.getElem_cons_succ, List.getElem_cons_zero]
    go_simp
    refine hK.out _ _ ((K2.alloc (.cells #[.int .i64 0, .int .i64 0, .string ⟨#[]⟩, .slice none 0 0] 30)).cell 3) ?_
    clear hK K
    try simp only [Act.put, List.setIfInBounds_toArray, List.set_cons_zero, List.set_cons_succ]
    rw [HLen.out] at HM
    refine till_late (j := 8) (by kernel_rfl) rfl (by kernel_rfl) (fun K hK => ?_)
    try simp only [List.getElem_toArray, List.getElem_cons_succ, List.getElem_cons_zero]
    rw [if_pos (by rfl)]
    refine wp_append_lies _ _ _ _ rfl (gx + 1) 30 i0 _ 4 56 Try.underlying28 hi hz0 hz1 hz2' rfl (by decide) (.slice A n c) n (cellsEs es) rfl HM.out.own ⟨w2.heap.size, 0, none⟩ 1 1 (cellsE (0, 0, [], none, 0, 0)) rfl rfl (World.news_of_block HZb.out) (cellsE_one _) (by decide) (by unfold maxLen; omega) (by omega) HM.out.base _ (by rfl) ?_
    intro g' cap w3 hown3 hgrow hat hlt3
    have HP := Lib.hid (And.intro hown3 (And.intro hgrow hat))
    obtain ⟨⟨y0, y1, y2, y3⟩, v0, v1, v2, v3⟩ := own_last hown3 HLen.out
    have K3 := HM.out.box hgrow
    obtain ⟨⟨x0, x1, x2, x3⟩, u0, u1, u2, u3⟩ := K3.four
    have hgg : ¬ g' = gx := HM.out.apart hown3
    have hgg' : ¬ gx = g' := fun e => hgg e.symm
    clear hown3 hgrow hat K3
    refine hK.out _ _ ?_
    clear hK K
    try simp only [Act.put, List.setIfInBounds_toArray, List.set_cons_zero, List.set_cons_succ]
    refine till_rest (by kernel_rfl) ?_
    refine any_take (i := 9) (v := ?_) (some 13) rfl rfl (by kernel_rfl) (by kernel_rfl) (by kernel_rfl) (fun _ _ _ h => h) (Or.inl ⟨by rfl, ?_⟩) ?_
    rotate_left 1
    · intro w'; go_simp; rw [if_pos (show (n : Int) < (n : Int) + 1 by omega)]
    try simp only [Act.put, List.setIfInBounds_toArray, List.set_cons_zero, List.set_cons_succ]
    refine any_take (i := 11) (v := ?_) (some 14) rfl rfl (by kernel_rfl) (by kernel_rfl) (by kernel_rfl) (fun _ _ _ h => h) (Or.inl ⟨by rfl, ?_⟩) ?_
    rotate_left 1
    · intro w'; go_simp; try with_reducible rfl
    try simp only [Act.put, List.setIfInBounds_toArray, List.set_cons_zero, List.set_cons_succ]
    refine any_take (i := 12) (v := ?_) (some 15) rfl rfl (by kernel_rfl) (by kernel_rfl) (by kernel_rfl) (fun _ _ _ h => h) (Or.inl ⟨by rfl, ?_⟩) ?_
    rotate_left 1
    · intro w'; go_simp; try with_reducible rfl
    try simp only [Act.put, List.setIfInBounds_toArray, List.set_cons_zero, List.set_cons_succ]
    refine any_two (j := 10) (k := 13) (by kernel_rfl) rfl rfl (fun K hK => ?_) (fun K hK => ?_)
    · skip
      try simp only [List.getElem_toArray, List.getElem_cons_succ, List.getElem_cons_zero]
      go_simp
      refine hK _ _ ?_
      clear hK K
      try simp only [Act.put, List.setIfInBounds_toArray, List.set_cons_zero, List.set_cons_succ]
      refine any_one (j := 13) (by kernel_rfl) rfl (fun K hK => ?_)
      try simp only [List.getElem_toArray, List.getElem_cons_succ, List.getElem_cons_zero]
      go_simp
      refine hK _ _ ?_
      clear hK K
      try simp only [Act.put, List.setIfInBounds_toArray, List.set_cons_zero, List.set_cons_succ]
      refine any_done (by kernel_rfl) ?_ _
      go_end0
      refine PcPost.yes HR.out rfl ?_
      have HPu := (HM.out.pushed HP.out HLen.out).1
      have HPv := fun W h => HM.out.push HP.out HLen.out hx W h
      unfold put4 at HPu
      exact HPv _ HPu
    · skip
      try simp only [List.getElem_toArray, List.getElem_cons_succ, List.getElem_cons_zero]
      go_simp
      refine hK _ _ ?_
      clear hK K
      try simp only [Act.put, List.setIfInBounds_toArray, List.set_cons_zero, List.set_cons_succ]
      refine any_one (j := 10) (by kernel_rfl) rfl (fun K hK => ?_)
      try simp only [List.getElem_toArray, List.getElem_cons_succ, List.getElem_cons_zero]
      go_simp
      refine hK _ _ ?_
      clear hK K
      try simp only [Act.put, List.setIfInBounds_toArray, List.set_cons_zero, List.set_cons_succ]
      refine any_done (by kernel_rfl) ?_ _
      go_end0
      refine PcPost.yes HR.out rfl ?_
      have HPu := (HM.out.pushed HP.out HLen.out).2
      have HPv := fun W h => HM.out.push HP.out HLen.out hx W h
      unfold put4 at HPu
      exact HPv _ HPu
  · skip
    try simp only [List.getElem_toArray, List.getElem_cons_succ, List.getElem_cons_zero]
    go_simp
    refine hK.out _ _ ((HK.out.alloc (.cells #[.int .i64 0, .int .i64 0, .string ⟨#[]⟩, .slice none 0 0] 30)).drew.cell 3) ?_
    clear hK K
    try simp only [Act.put, List.setIfInBounds_toArray, List.set_cons_zero, List.set_cons_succ]
    refine till_one (j := 5) (by kernel_rfl) rfl (fun K hK => ?_)
    try simp only [List.getElem_toArray, List.getElem_cons_succ, List.getElem_cons_zero]
    rw [if_pos (by rfl)]
    go_simp
    go_at_call 34
    (with_reducible refine (ex_yes E had (HS.out.rel HDA.out) HR0.out).mono ?_)
    rintro e w2 ⟨vx, rfl, ex, s2, g2⟩
    have K2 := (HK.out.alloc (.cells #[.int .i64 0, .int .i64 0, .string ⟨#[]⟩, .slice none 0 0] 30)).drew.grown g2 (fun e => by injection e; omega)
    have HM := Lib.hid (mid_two HI.out HXX.out HDA.out g2 s2 ex rfl)
    have HZb := Lib.hid ((Bk.new w 30 #[.int .i64 0, .int .i64 0, .string ⟨#[]⟩, .slice none 0 0]).drew.grown g2 (fun e => by injection e; have := HS.out.lt; omega))
    refine hK.out _ _ (K2.cell 3) ?_
    clear hK K
    try simp only [Act.put, List.setIfInBounds_toArray, List.set_cons_zero, List.set_cons_succ]
    rw [HLen.out] at HM
    refine till_late (j := 8) (by kernel_rfl) rfl (by kernel_rfl) (fun K hK => ?_)
    try simp only [List.getElem_toArray, List.getElem_cons_succ, List.getElem_cons_zero]
    rw [if_pos (by rfl)]
    refine wp_append_lies _ _ _ _ rfl (gx + 1) 30 i0 _ 4 56 Try.underlying28 hi hz0 hz1 hz2' rfl (by decide) (.slice A n c) n (cellsEs es) rfl HM.out.own ⟨w.heap.size, 0, none⟩ 1 1 (cellsE (0, 0, [], none, 0, 0)) rfl rfl (World.news_of_block HZb.out) (cellsE_one _) (by decide) (by unfold maxLen; omega) (by omega) HM.out.base _ (by rfl) ?_
    intro g' cap w3 hown3 hgrow hat hlt3
    have HP := Lib.hid (And.intro hown3 (And.intro hgrow hat))
    obtain ⟨⟨y0, y1, y2, y3⟩, v0, v1, v2, v3⟩ := own_last hown3 HLen.out
    have K3 := HM.out.box hgrow
    obtain ⟨⟨x0, x1, x2, x3⟩, u0, u1, u2, u3⟩ := K3.four
    have hgg : ¬ g' = gx := HM.out.apart hown3
    have hgg' : ¬ gx = g' := fun e => hgg e.symm
    clear hown3 hgrow hat K3
    refine hK.out _ _ ?_
    clear hK K
    try simp only [Act.put, List.setIfInBounds_toArray, List.set_cons_zero, List.set_cons_succ]
    refine till_rest (by kernel_rfl) ?_
    refine any_take (i := 9) (v := ?_) (some 13) rfl rfl (by kernel_rfl) (by kernel_rfl) (by kernel_rfl) (fun _ _ _ h => h) (Or.inl ⟨by rfl, ?_⟩) ?_
    rotate_left 1
    · intro w'; go_simp; rw [if_pos (show (n : Int) < (n : Int) + 1 by omega)]
    try simp only [Act.put, List.setIfInBounds_toArray, List.set_cons_zero, List.set_cons_succ]
    refine any_take (i := 11) (v := ?_) (some 14) rfl rfl (by kernel_rfl) (by kernel_rfl) (by kernel_rfl) (fun _ _ _ h => h) (Or.inl ⟨by rfl, ?_⟩) ?_
    rotate_left 1
    · intro w'; go_simp; try with_reducible rfl
    try simp only [Act.put, List.setIfInBounds_toArray, List.set_cons_zero, List.set_cons_succ]
    refine any_take (i := 12) (v := ?_) (some 15) rfl rfl (by kernel_rfl) (by kernel_rfl) (by kernel_rfl) (fun _ _ _ h => h) (Or.inl ⟨by rfl, ?_⟩) ?_
    rotate_left 1
    · intro w'; go_simp; try with_reducible rfl
    try simp only [Act.put, List.setIfInBounds_toArray, List.set_cons_zero, List.set_cons_succ]
    refine any_two (j := 10) (k := 13) (by kernel_rfl) rfl rfl (fun K hK => ?_) (fun K hK => ?_)
    · skip
      try simp only [List.getElem_toArray, List.getElem_cons_succ, List.getElem_cons_zero]
      go_simp
      refine hK _ _ ?_
      clear hK K
      try simp only [Act.put, List.setIfInBounds_toArray, List.set_cons_zero, List.set_cons_succ]
      refine any_one (j := 13) (by kernel_rfl) rfl (fun K hK => ?_)
      try simp only [List.getElem_toArray, List.getElem_cons_succ, List.getElem_cons_zero]
      go_simp
      refine hK _ _ ?_
      clear hK K
      try simp only [Act.put, List.setIfInBounds_toArray, List.set_cons_zero, List.set_cons_succ]
      refine any_done (by kernel_rfl) ?_ _
      go_end0
      refine PcPost.yes HR.out rfl ?_
      have HPu := (HM.out.pushed HP.out HLen.out).1
      have HPv := fun W h => HM.out.push HP.out HLen.out hx W h
      unfold put4 at HPu
      exact HPv _ HPu
    · skip
      try simp only [List.getElem_toArray, List.getElem_cons_succ, List.getElem_cons_zero]
      go_simp
      refine hK _ _ ?_
      clear hK K
      try simp only [Act.put, List.setIfInBounds_toArray, List.set_cons_zero, List.set_cons_succ]
      refine any_one (j := 10) (by kernel_rfl) rfl (fun K hK => ?_)
      try simp only [List.getElem_toArray, List.getElem_cons_succ, List.getElem_cons_zero]
      go_simp
      refine hK _ _ ?_
      clear hK K
      try simp only [Act.put, List.setIfInBounds_toArray, List.set_cons_zero, List.set_cons_succ]
      refine any_done (by kernel_rfl) ?_ _
      go_end0
      refine PcPost.yes HR.out rfl ?_
      have HPu := (HM.out.pushed HP.out HLen.out).2
      have HPv := fun W h => HM.out.push HP.out HLen.out hx W h
      unfold put4 at HPu
      exact HPv _ HPu
set_option maxRecDepth 100000 in
set_option maxHeartbeats 1000000 in
theorem parg_no (d : Nat) (E : ExprOk d) (V U : World) (g gx a : Nat) (had : a + d = 32) (x : Ex) (ts : List Tok) (hx : x.l.length ≤ 2) (e0 : Int × Int) (hr : exprT d false ts = .error e0) (w : World) (h : InP V U w g gx a x ts) :
    Calls Try.prog 52 #[.pointer (some ⟨g, 0, none⟩), .pointer (some ⟨gx, 0, none⟩)] w (PcPost V U g gx a (stepP (exprT d) .ar x ts)) := by
  obtain ⟨i0, hi, hz0, hz1, hz2'⟩ := info_parts ex_info
  have HI := Lib.hid h
  have HR := Lib.hid (show stepP (exprT d) .ar x ts = .error e0 by unfold stepP; rw [hr])
  have HR0 := Lib.hid hr
  obtain ⟨hs, hg, hU, hG, A, c, es, hX⟩ := h
  have HD := Lib.hid (hs.V.1.self.drew)
  have HDA := Lib.hid (hs.V.1.self.alloc (.cells #[.int .i64 0, .int .i64 0, .string ⟨#[]⟩, .slice none 0 0] 30)).drew
  have HXX := Lib.hid hX
  obtain ⟨n, hn⟩ : ∃ n, es.length = n := ⟨_, rfl⟩
  have HLen := Lib.hid hn
  have hn2 : n ≤ 2 := by rw [← hn, hX.2.2.1]; exact hx
  have hgx := hX.lt
  have HK := Lib.hid hX.1
  have hbk := hX.1
  rw [hn] at HK hbk
  obtain ⟨⟨c0, c1, c2, c3⟩, f0, f1, f2, f3⟩ := hbk.four
  have HS := Lib.hid hs
  clear hr hs hX hbk hG hn
  go_enter Try.func52, Try.ntmps52
  go_wp2_with (fail)
  refine wp_region_any (by kernel_rfl) ?_
  change wpAny _ _ _ _ _ _ _ w.drew
  refine any_take (i := 0) (v := ?_) (some 4) rfl rfl (by kernel_rfl) (by kernel_rfl) (by kernel_rfl) (fun _ _ _ h => h) (Or.inl ⟨by rfl, ?_⟩) ?_
  rotate_left 1
  · intro w'; go_simp; try with_reducible rfl
  try simp only [Act.put, List.setIfInBounds_toArray, List.set_cons_zero, List.set_cons_succ]
  refine any_take (i := 1) (v := ?_) (some 5) rfl rfl (by kernel_rfl) (by kernel_rfl) (by kernel_rfl) (fun _ _ _ h => h) (Or.inl ⟨by rfl, ?_⟩) ?_
  rotate_left 1
  · intro w'; go_simp; try with_reducible rfl
  try simp only [Act.put, List.setIfInBounds_toArray, List.set_cons_zero, List.set_cons_succ]
  refine any_take (i := 2) (v := ?_) (some 6) rfl rfl (by kernel_rfl) (by kernel_rfl) (by kernel_rfl) (fun _ _ _ h => h) (Or.inl ⟨by rfl, ?_⟩) ?_
  rotate_left 1
  · intro w'; go_simp; try with_reducible rfl
  try simp only [Act.put, List.setIfInBounds_toArray, List.set_cons_zero, List.set_cons_succ]
  refine any_take (i := 4) (v := ?_) (some 8) rfl rfl (by kernel_rfl) (by kernel_rfl) (by kernel_rfl) (fun _ _ _ h => h) (Or.inl ⟨by rfl, ?_⟩) ?_
  rotate_left 1
  · intro w'; go_simp; try with_reducible rfl
  try simp only [Act.put, List.setIfInBounds_toArray, List.set_cons_zero, List.set_cons_succ]
  refine till_take (i := 3) (v := ?_) (S := fun w' => w'.cell? ⟨gx, 3, none⟩ = some (.slice A n c)) (some 7) rfl rfl (by kernel_rfl) (by kernel_rfl) (by kernel_rfl) (fun _ _ _ h => h) (Or.inl ⟨by rfl, ?_⟩) c3 ?_
  rotate_left 1
  · intro w' hSw; go_simp; try with_reducible rfl
  try simp only [Act.put, List.setIfInBounds_toArray, List.set_cons_zero, List.set_cons_succ]
  refine till_move (q := 6) (v := ?_) (some 10) rfl rfl (by kernel_rfl) (by kernel_rfl) (by kernel_rfl) (by kernel_rfl) (fun _ _ _ h => h) (Or.inl ⟨by rfl, ?_⟩) ?_
  rotate_left 1
  · intro w'; go_simp; try with_reducible rfl
  try simp only [Act.put, List.setIfInBounds_toArray, List.set_cons_zero, List.set_cons_succ]
  refine till_two (j := 5) (k := 7) (by kernel_rfl) rfl rfl (fun K hK => ?_) (fun K hK => ?_)
  · skip
    try simp only [List.getElem_toArray, List.getElem_cons_succ, List.getElem_cons_zero]
    rw [if_pos (by rfl)]
    go_simp
    go_at_call 34
    (with_reducible refine (ex_no E had (HS.out.rel HD.out) HR0.out).mono ?_)
    rintro e w2 ⟨rfl, g2⟩
    exact ⟨rfl, PcPost.no HR.out rfl (grown_trans HI.out.2.2.2.1 (grown_trans (grown_rel (some g) HD.out) g2))⟩
  · skip
    try simp only [List.getElem_toArray, List.getElem_cons_succ, List.getElem_cons_zero]
    go_simp
    refine hK.out _ _ ((HK.out.alloc (.cells #[.int .i64 0, .int .i64 0, .string ⟨#[]⟩, .slice none 0 0] 30)).drew.cell 3) ?_
    clear hK K
    try simp only [Act.put, List.setIfInBounds_toArray, List.set_cons_zero, List.set_cons_succ]
    refine till_one (j := 5) (by kernel_rfl) rfl (fun K hK => ?_)
    try simp only [List.getElem_toArray, List.getElem_cons_succ, List.getElem_cons_zero]
    rw [if_pos (by rfl)]
    go_simp
    go_at_call 34
    (with_reducible refine (ex_no E had (HS.out.rel HDA.out) HR0.out).mono ?_)
    rintro e w2 ⟨rfl, g2⟩
    exact ⟨rfl, PcPost.no HR.out rfl (grown_trans HI.out.2.2.2.1 (grown_trans (grown_rel (some g) HDA.out) g2))⟩
set_option maxRecDepth 100000 in
set_option maxHeartbeats 1000000 in
theorem pwhen_yes (d : Nat) (E : ExprOk d) (V U : World) (g gx a : Nat) (had : a + d = 32) (x : Ex) (ts : List Tok) (hx : x.l.length ≤ 2) (y : Ex) (r : List Tok) (hr : exprT d true ts = .ok (y, r)) (w : World) (h : InP V U w g gx a x ts) :
    Calls Try.prog 55 #[.pointer (some ⟨g, 0, none⟩), .pointer (some ⟨gx, 0, none⟩)] w (PcPost V U g gx a (stepP (exprT d) .wh x ts)) := by
  obtain ⟨i0, hi, hz0, hz1, hz2'⟩ := info_parts ex_info
  have HI := Lib.hid h
  have HR := Lib.hid (show stepP (exprT d) .wh x ts = .ok (x.push y, r) by unfold stepP; rw [hr])
  have HR0 := Lib.hid hr
  obtain ⟨hs, hg, hU, hG, A, c, es, hX⟩ := h
  have HD := Lib.hid (hs.V.1.self.drew)
  have HDA := Lib.hid (hs.V.1.self.alloc (.cells #[.int .i64 0, .int .i64 0, .string ⟨#[]⟩, .slice none 0 0] 30)).drew
  have HXX := Lib.hid hX
  obtain ⟨n, hn⟩ : ∃ n, es.length = n := ⟨_, rfl⟩
  have HLen := Lib.hid hn
  have hn2 : n ≤ 2 := by rw [← hn, hX.2.2.1]; exact hx
  have hgx := hX.lt
  have HK := Lib.hid hX.1
  have hbk := hX.1
  rw [hn] at HK hbk
  obtain ⟨⟨c0, c1, c2, c3⟩, f0, f1, f2, f3⟩ := hbk.four
  have HS := Lib.hid hs
  clear hr hs hX hbk hG hn
  go_enter Try.func55, Try.ntmps55
  go_wp2_with (fail)
  refine wp_region_any (by kernel_rfl) ?_
  change wpAny _ _ _ _ _ _ _ w.drew
  refine any_take (i := 0) (v := ?_) (some 4) rfl rfl (by kernel_rfl) (by kernel_rfl) (by kernel_rfl) (fun _ _ _ h => h) (Or.inl ⟨by rfl, ?_⟩) ?_
  rotate_left 1
  · intro w'; go_simp; try with_reducible rfl
  try simp only [Act.put, List.setIfInBounds_toArray, List.set_cons_zero, List.set_cons_succ]
  refine any_take (i := 1) (v := ?_) (some 5) rfl rfl (by kernel_rfl) (by kernel_rfl) (by kernel_rfl) (fun _ _ _ h => h) (Or.inl ⟨by rfl, ?_⟩) ?_
  rotate_left 1
  · intro w'; go_simp; try with_reducible rfl
  try simp only [Act.put, List.setIfInBounds_toArray, List.set_cons_zero, List.set_cons_succ]
  refine any_take (i := 2) (v := ?_) (some 6) rfl rfl (by kernel_rfl) (by kernel_rfl) (by kernel_rfl) (fun _ _ _ h => h) (Or.inl ⟨by rfl, ?_⟩) ?_
  rotate_left 1
  · intro w'; go_simp; try with_reducible rfl
  try simp only [Act.put, List.setIfInBounds_toArray, List.set_cons_zero, List.set_cons_succ]
  refine any_take (i := 4) (v := ?_) (some 8) rfl rfl (by kernel_rfl) (by kernel_rfl) (by kernel_rfl) (fun _ _ _ h => h) (Or.inl ⟨by rfl, ?_⟩) ?_
  rotate_left 1
  · intro w'; go_simp; try with_reducible rfl
  try simp only [Act.put, List.setIfInBounds_toArray, List.set_cons_zero, List.set_cons_succ]
  refine till_take (i := 3) (v := ?_) (S := fun w' => w'.cell? ⟨gx, 3, none⟩ = some (.slice A n c)) (some 7) rfl rfl (by kernel_rfl) (by kernel_rfl) (by kernel_rfl) (fun _ _ _ h => h) (Or.inl ⟨by rfl, ?_⟩) c3 ?_
  rotate_left 1
  · intro w' hSw; go_simp; try with_reducible rfl
  try simp only [Act.put, List.setIfInBounds_toArray, List.set_cons_zero, List.set_cons_succ]
  refine till_move (q := 6) (v := ?_) (some 10) rfl rfl (by kernel_rfl) (by kernel_rfl) (by kernel_rfl) (by kernel_rfl) (fun _ _ _ h => h) (Or.inl ⟨by rfl, ?_⟩) ?_
  rotate_left 1
  · intro w'; go_simp; try with_reducible rfl
  try simp only [Act.put, List.setIfInBounds_toArray, List.set_cons_zero, List.set_cons_succ]
  refine till_two (j := 5) (k := 7) (by kernel_rfl) rfl rfl (fun K hK => ?_) (fun K hK => ?_)
  · skip
    try simp only [List.getElem_toArray, List.getElem_cons_succ, List.getElem_cons_zero]
    rw [if_pos (by rfl)]
    go_simp
    go_at_call 70
    (with_reducible refine (cond_yes E had (HS.out.rel HD.out) HR0.out).mono ?_)
    rintro e w2 ⟨vx, rfl, ex, s2, g2⟩
    have K2 := HK.out.drew.grown g2 (fun e => by injection e; omega)
    have HM := Lib.hid (mid_one HI.out HXX.out HD.out g2 s2 ex (.cells #[.int .i64 0, .int .i64 0, .string ⟨#[]⟩, .slice none 0 0] 30))
    have HZb := Lib.hid (Bk.new w2 30 #[.int .i64 0, .int .i64 0, .string ⟨#[]⟩, .slice none 0 0])
    refine hK.out _ _ (K2.cell 3) ?_
    clear hK K
    try simp only [Act.put, List.setIfInBounds_toArray, List.set_cons_zero, List.set_cons_succ]
    refine till_one (j := 7) (by kernel_rfl) rfl (fun K hK => ?_)
    try simp only [List.getElem_toArray, List.getElem_cons_succ, List.getElem_cons_zero]
    go_simp
    refine hK.out _ _ ((K2.alloc (.cells #[.int .i64 0, .int .i64 0, .string ⟨#[]⟩, .slice none 0 0] 30)).cell 3) ?_
    clear hK K
    try simp only [Act.put, List.setIfInBounds_toArray, List.set_cons_zero, List.set_cons_succ]
    rw [HLen.out] at HM
    refine till_late (j := 8) (by kernel_rfl) rfl (by kernel_rfl) (fun K hK => ?_)
    try simp only [List.getElem_toArray, List.getElem_cons_succ, List.getElem_cons_zero]
    rw [if_pos (by rfl)]
    refine wp_append_lies _ _ _ _ rfl (gx + 1) 30 i0 _ 4 56 Try.underlying28 hi hz0 hz1 hz2' rfl (by decide) (.slice A n c) n (cellsEs es) rfl HM.out.own ⟨w2.heap.size, 0, none⟩ 1 1 (cellsE (0, 0, [], none, 0, 0)) rfl rfl (World.news_of_block HZb.out) (cellsE_one _) (by decide) (by unfold maxLen; omega) (by omega) HM.out.base _ (by rfl) ?_
    intro g' cap w3 hown3 hgrow hat hlt3
    have HP := Lib.hid (And.intro hown3 (And.intro hgrow hat))
    obtain ⟨⟨y0, y1, y2, y3⟩, v0, v1, v2, v3⟩ := own_last hown3 HLen.out
    have K3 := HM.out.box hgrow
    obtain ⟨⟨x0, x1, x2, x3⟩, u0, u1, u2, u3⟩ := K3.four
    have hgg : ¬ g' = gx := HM.out.apart hown3
    have hgg' : ¬ gx = g' := fun e => hgg e.symm
    clear hown3 hgrow hat K3
    refine hK.out _ _ ?_
    clear hK K
    try simp only [Act.put, List.setIfInBounds_toArray, List.set_cons_zero, List.set_cons_succ]
    refine till_rest (by kernel_rfl) ?_
    refine any_take (i := 9) (v := ?_) (some 13) rfl rfl (by kernel_rfl) (by kernel_rfl) (by kernel_rfl) (fun _ _ _ h => h) (Or.inl ⟨by rfl, ?_⟩) ?_
    rotate_left 1
    · intro w'; go_simp; rw [if_pos (show (n : Int) < (n : Int) + 1 by omega)]
    try simp only [Act.put, List.setIfInBounds_toArray, List.set_cons_zero, List.set_cons_succ]
    refine any_take (i := 11) (v := ?_) (some 14) rfl rfl (by kernel_rfl) (by kernel_rfl) (by kernel_rfl) (fun _ _ _ h => h) (Or.inl ⟨by rfl, ?_⟩) ?_
    rotate_left 1
    · intro w'; go_simp; try with_reducible rfl
    try simp only [Act.put, List.setIfInBounds_toArray, List.set_cons_zero, List.set_cons_succ]
    refine any_take (i := 12) (v := ?_) (some 15) rfl rfl (by kernel_rfl) (by kernel_rfl) (by kernel_rfl) (fun _ _ _ h => h) (Or.inl ⟨by rfl, ?_⟩) ?_
    rotate_left 1
    · intro w'; go_simp; try with_reducible rfl
    try simp only [Act.put, List.setIfInBounds_toArray, List.set_cons_zero, List.set_cons_succ]
    refine any_two (j := 10) (k := 13) (by kernel_rfl) rfl rfl (fun K hK => ?_) (fun K hK => ?_)
    · skip
      try simp only [List.getElem_toArray, List.getElem_cons_succ, List.getElem_cons_zero]
      go_simp
      refine hK _ _ ?_
      clear hK K
      try simp only [Act.put, List.setIfInBounds_toArray, List.set_cons_zero, List.set_cons_succ]
      refine any_one (j := 13) (by kernel_rfl) rfl (fun K hK => ?_)
      try simp only [List.getElem_toArray, List.getElem_cons_succ, List.getElem_cons_zero]
      go_simp
      refine hK _ _ ?_
      clear hK K
      try simp only [Act.put, List.setIfInBounds_toArray, List.set_cons_zero, List.set_cons_succ]
      refine any_done (by kernel_rfl) ?_ _
      go_end0
      refine PcPost.yes HR.out rfl ?_
      have HPu := (HM.out.pushed HP.out HLen.out).1
      have HPv := fun W h => HM.out.push HP.out HLen.out hx W h
      unfold put4 at HPu
      exact HPv _ HPu
    · skip
      try simp only [List.getElem_toArray, List.getElem_cons_succ, List.getElem_cons_zero]
      go_simp
      refine hK _ _ ?_
      clear hK K
      try simp only [Act.put, List.setIfInBounds_toArray, List.set_cons_zero, List.set_cons_succ]
      refine any_one (j := 10) (by kernel_rfl) rfl (fun K hK => ?_)
      try simp only [List.getElem_toArray, List.getElem_cons_succ, List.getElem_cons_zero]
      go_simp
      refine hK _ _ ?_
      clear hK K
      try simp only [Act.put, List.setIfInBounds_toArray, List.set_cons_zero, List.set_cons_succ]
      refine any_done (by kernel_rfl) ?_ _
      go_end0
      refine PcPost.yes HR.out rfl ?_
      have HPu := (HM.out.pushed HP.out HLen.out).2
      have HPv := fun W h => HM.out.push HP.out HLen.out hx W h
      unfold put4 at HPu
      exact HPv _ HPu
  · skip
    try simp only [List.getElem_toArray, List.getElem_cons_succ, List.getElem_cons_zero]
    go_simp
    refine hK.out _ _ ((HK.out.alloc (.cells #[.int .i64 0, .int .i64 0, .string ⟨#[]⟩, .slice none 0 0] 30)).drew.cell 3) ?_
    clear hK K
    try simp only [Act.put, List.setIfInBounds_toArray, List.set_cons_zero, List.set_cons_succ]
    refine till_one (j := 5) (by kernel_rfl) rfl (fun K hK => ?_)
    try simp only [List.getElem_toArray, List.getElem_cons_succ, List.getElem_cons_zero]
    rw [if_pos (by rfl)]
    go_simp
    go_at_call 70
    (with_reducible refine (cond_yes E had (HS.out.rel HDA.out) HR0.out).mono ?_)
    rintro e w2 ⟨vx, rfl, ex, s2, g2⟩
    have K2 := (HK.out.alloc (.cells #[.int .i64 0, .int .i64 0, .string ⟨#[]⟩, .slice none 0 0] 30)).drew.grown g2 (fun e => by injection e; omega)
    have HM := Lib.hid (mid_two HI.out HXX.out HDA.out g2 s2 ex rfl)
    have HZb := Lib.hid ((Bk.new w 30 #[.int .i64 0, .int .i64 0, .string ⟨#[]⟩, .slice none 0 0]).drew.grown g2 (fun e => by injection e; have := HS.out.lt; omega))
    refine hK.out _ _ (K2.cell 3) ?_
    clear hK K
    try simp only [Act.put, List.setIfInBounds_toArray, List.set_cons_zero, List.set_cons_succ]
    rw [HLen.out] at HM
    refine till_late (j := 8) (by kernel_rfl) rfl (by kernel_rfl) (fun K hK => ?_)
    try simp only [List.getElem_toArray, List.getElem_cons_succ, List.getElem_cons_zero]
    rw [if_pos (by rfl)]
    refine wp_append_lies _ _ _ _ rfl (gx + 1) 30 i0 _ 4 56 Try.underlying28 hi hz0 hz1 hz2' rfl (by decide) (.slice A n c) n (cellsEs es) rfl HM.out.own ⟨w.heap.size, 0, none⟩ 1 1 (cellsE (0, 0, [], none, 0, 0)) rfl rfl (World.news_of_block HZb.out) (cellsE_one _) (by decide) (by unfold maxLen; omega) (by omega) HM.out.base _ (by rfl) ?_
    intro g' cap w3 hown3 hgrow hat hlt3
    have HP := Lib.hid (And.intro hown3 (And.intro hgrow hat))
    obtain ⟨⟨y0, y1, y2, y3⟩, v0, v1, v2, v3⟩ := own_last hown3 HLen.out
    have K3 := HM.out.box hgrow
    obtain ⟨⟨x0, x1, x2, x3⟩, u0, u1, u2, u3⟩ := K3.four
    have hgg : ¬ g' = gx := HM.out.apart hown3
    have hgg' : ¬ gx = g' := fun e => hgg e.symm
    clear hown3 hgrow hat K3
    refine hK.out _ _ ?_
    clear hK K
    try simp only [Act.put, List.setIfInBounds_toArray, List.set_cons_zero, List.set_cons_succ]
    refine till_rest (by kernel_rfl) ?_
    refine any_take (i := 9) (v := ?_) (some 13) rfl rfl (by kernel_rfl) (by kernel_rfl) (by kernel_rfl) (fun _ _ _ h => h) (Or.inl ⟨by rfl, ?_⟩) ?_
    rotate_left 1
    · intro w'; go_simp; rw [if_pos (show (n : Int) < (n : Int) + 1 by omega)]
    try simp only [Act.put, List.setIfInBounds_toArray, List.set_cons_zero, List.set_cons_succ]
    refine any_take (i := 11) (v := ?_) (some 14) rfl rfl (by kernel_rfl) (by kernel_rfl) (by kernel_rfl) (fun _ _ _ h => h) (Or.inl ⟨by rfl, ?_⟩) ?_
    rotate_left 1
    · intro w'; go_simp; try with_reducible rfl
    try simp only [Act.put, List.setIfInBounds_toArray, List.set_cons_zero, List.set_cons_succ]
    refine any_take (i := 12) (v := ?_) (some 15) rfl rfl (by kernel_rfl) (by kernel_rfl) (by kernel_rfl) (fun _ _ _ h => h) (Or.inl ⟨by rfl, ?_⟩) ?_
    rotate_left 1
    · intro w'; go_simp; try with_reducible rfl
    try simp only [Act.put, List.setIfInBounds_toArray, List.set_cons_zero, List.set_cons_succ]
    refine any_two (j := 10) (k := 13) (by kernel_rfl) rfl rfl (fun K hK => ?_) (fun K hK => ?_)
    · skip
      try simp only [List.getElem_toArray, List.getElem_cons_succ, List.getElem_cons_zero]
      go_simp
      refine hK _ _ ?_
      clear hK K
      try simp only [Act.put, List.setIfInBounds_toArray, List.set_cons_zero, List.set_cons_succ]
      refine any_one (j := 13) (by kernel_rfl) rfl (fun K hK => ?_)
      try simp only [List.getElem_toArray, List.getElem_cons_succ, List.getElem_cons_zero]
      go_simp
      refine hK _ _ ?_
      clear hK K
      try simp only [Act.put, List.setIfInBounds_toArray, List.set_cons_zero, List.set_cons_succ]
      refine any_done (by kernel_rfl) ?_ _
      go_end0
      refine PcPost.yes HR.out rfl ?_
      have HPu := (HM.out.pushed HP.out HLen.out).1
      have HPv := fun W h => HM.out.push HP.out HLen.out hx W h
      unfold put4 at HPu
      exact HPv _ HPu
    · skip
      try simp only [List.getElem_toArray, List.getElem_cons_succ, List.getElem_cons_zero]
      go_simp
      refine hK _ _ ?_
      clear hK K
      try simp only [Act.put, List.setIfInBounds_toArray, List.set_cons_zero, List.set_cons_succ]
      refine any_one (j := 10) (by kernel_rfl) rfl (fun K hK => ?_)
      try simp only [List.getElem_toArray, List.getElem_cons_succ, List.getElem_cons_zero]
      go_simp
      refine hK _ _ ?_
      clear hK K
      try simp only [Act.put, List.setIfInBounds_toArray, List.set_cons_zero, List.set_cons_succ]
      refine any_done (by kernel_rfl) ?_ _
      go_end0
      refine PcPost.yes HR.out rfl ?_
      have HPu := (HM.out.pushed HP.out HLen.out).2
      have HPv := fun W h => HM.out.push HP.out HLen.out hx W h
      unfold put4 at HPu
      exact HPv _ HPu
set_option maxRecDepth 100000 in
set_option maxHeartbeats 1000000 in
theorem pwhen_no (d : Nat) (E : ExprOk d) (V U : World) (g gx a : Nat) (had : a + d = 32) (x : Ex) (ts : List Tok) (hx : x.l.length ≤ 2) (e0 : Int × Int) (hr : exprT d true ts = .error e0) (w : World) (h : InP V U w g gx a x ts) :
    Calls Try.prog 55 #[.pointer (some ⟨g, 0, none⟩), .pointer (some ⟨gx, 0, none⟩)] w (PcPost V U g gx a (stepP (exprT d) .wh x ts)) := by
  obtain ⟨i0, hi, hz0, hz1, hz2'⟩ := info_parts ex_info
  have HI := Lib.hid h
  have HR := Lib.hid (show stepP (exprT d) .wh x ts = .error e0 by unfold stepP; rw [hr])
  have HR0 := Lib.hid hr
  obtain ⟨hs, hg, hU, hG, A, c, es, hX⟩ := h
  have HD := Lib.hid (hs.V.1.self.drew)
  have HDA := Lib.hid (hs.V.1.self.alloc (.cells #[.int .i64 0, .int .i64 0, .string ⟨#[]⟩, .slice none 0 0] 30)).drew
  have HXX := Lib.hid hX
  obtain ⟨n, hn⟩ : ∃ n, es.length = n := ⟨_, rfl⟩
  have HLen := Lib.hid hn
  have hn2 : n ≤ 2 := by rw [← hn, hX.2.2.1]; exact hx
  have hgx := hX.lt
  have HK := Lib.hid hX.1
  have hbk := hX.1
  rw [hn] at HK hbk
  obtain ⟨⟨c0, c1, c2, c3⟩, f0, f1, f2, f3⟩ := hbk.four
  have HS := Lib.hid hs
  clear hr hs hX hbk hG hn
  go_enter Try.func55, Try.ntmps55
  go_wp2_with (fail)
  refine wp_region_any (by kernel_rfl) ?_
  change wpAny _ _ _ _ _ _ _ w.drew
  refine any_take (i := 0) (v := ?_) (some 4) rfl rfl (by kernel_rfl) (by kernel_rfl) (by kernel_rfl) (fun _ _ _ h => h) (Or.inl ⟨by rfl, ?_⟩) ?_
  rotate_left 1
  · intro w'; go_simp; try with_reducible rfl
  try simp only [Act.put, List.setIfInBounds_toArray, List.set_cons_zero, List.set_cons_succ]
  refine any_take (i := 1) (v := ?_) (some 5) rfl rfl (by kernel_rfl) (by kernel_rfl) (by kernel_rfl) (fun _ _ _ h => h) (Or.inl ⟨by rfl, ?_⟩) ?_
  rotate_left 1
  · intro w'; go_simp; try with_reducible rfl
  try simp only [Act.put, List.setIfInBounds_toArray, List.set_cons_zero, List.set_cons_succ]
  refine any_take (i := 2) (v := ?_) (some 6) rfl rfl (by kernel_rfl) (by kernel_rfl) (by kernel_rfl) (fun _ _ _ h => h) (Or.inl ⟨by rfl, ?_⟩) ?_
  rotate_left 1
  · intro w'; go_simp; try with_reducible rfl
  try simp only [Act.put, List.setIfInBounds_toArray, List.set_cons_zero, List.set_cons_succ]
  refine any_take (i := 4) (v := ?_) (some 8) rfl rfl (by kernel_rfl) (by kernel_rfl) (by kernel_rfl) (fun _ _ _ h => h) (Or.inl ⟨by rfl, ?_⟩) ?_
  rotate_left 1
  · intro w'; go_simp; try with_reducible rfl
  try simp only [Act.put, List.setIfInBounds_toArray, List.set_cons_zero, List.set_cons_succ]
  refine till_take (i := 3) (v := ?_) (S := fun w' => w'.cell? ⟨gx, 3, none⟩ = some (.slice A n c)) (some 7) rfl rfl (by kernel_rfl) (by kernel_rfl) (by kernel_rfl) (fun _ _ _ h => h) (Or.inl ⟨by rfl, ?_⟩) c3 ?_
  rotate_left 1
  · intro w' hSw; go_simp; try with_reducible rfl
  try simp only [Act.put, List.setIfInBounds_toArray, List.set_cons_zero, List.set_cons_succ]
  refine till_move (q := 6) (v := ?_) (some 10) rfl rfl (by kernel_rfl) (by kernel_rfl) (by kernel_rfl) (by kernel_rfl) (fun _ _ _ h => h) (Or.inl ⟨by rfl, ?_⟩) ?_
  rotate_left 1
  · intro w'; go_simp; try with_reducible rfl
  try simp only [Act.put, List.setIfInBounds_toArray, List.set_cons_zero, List.set_cons_succ]
  refine till_two (j := 5) (k := 7) (by kernel_rfl) rfl rfl (fun K hK => ?_) (fun K hK => ?_)
  · skip
    try simp only [List.getElem_toArray, List.getElem_cons_succ, List.getElem_cons_zero]
    rw [if_pos (by rfl)]
    go_simp
    go_at_call 70
    (with_reducible refine (cond_no E had (HS.out.rel HD.out) HR0.out).mono ?_)
    rintro e w2 ⟨rfl, g2⟩
    exact ⟨rfl, PcPost.no HR.out rfl (grown_trans HI.out.2.2.2.1 (grown_trans (grown_rel (some g) HD.out) g2))⟩
  · skip
    try simp only [List.getElem_toArray, List.getElem_cons_succ, List.getElem_cons_zero]
    go_simp
    refine hK.out _ _ ((HK.out.alloc (.cells #[.int .i64 0, .int .i64 0, .string ⟨#[]⟩, .slice none 0 0] 30)).drew.cell 3) ?_
    clear hK K
    try simp only [Act.put, List.setIfInBounds_toArray, List.set_cons_zero, List.set_cons_succ]
    refine till_one (j := 5) (by kernel_rfl) rfl (fun K hK => ?_)
    try simp only [List.getElem_toArray, List.getElem_cons_succ, List.getElem_cons_zero]
    rw [if_pos (by rfl)]
    go_simp
    go_at_call 70
    (with_reducible refine (cond_no E had (HS.out.rel HDA.out) HR0.out).mono ?_)
    rintro e w2 ⟨rfl, g2⟩
    exact ⟨rfl, PcPost.no HR.out rfl (grown_trans HI.out.2.2.2.1 (grown_trans (grown_rel (some g) HDA.out) g2))⟩
end Go.Proofs.Ytoajbbcjmalngaa
