/- The landed parser: an argument, a condition put into the expression being built: the walks; The landed parser: any piece of a call, taken. -/
import Derived.Test.YtjhjdiaomnpkmaaDoorZL
import Derived.Test.YtjhjdiaomnpkmaaDoorZ00
import Derived.Test.YtjhjdiaomnpkmaaDoorZ01
import Derived.Test.YtjhjdiaomnpkmaaDoorZ02
import Derived.Test.YtjhjdiaomnpkmaaDoorZ03
import Derived.Test.YtjhjdiaomnpkmaaDoorZ04
import Derived.Test.YtjhjdiaomnpkmaaDoorZ06
import Derived.Test.YtjhjdiaomnpkmaaDoorZ07
namespace Go.Proofs.YtjhjdiaomnpkmaaDoor
open Go.RowKit Go.Lib
set_option linter.unusedVariables false
set_option linter.unusedSimpArgs false
set_option maxRecDepth 100000 in
set_option maxHeartbeats 1000000 in
theorem parg_yes (d : Nat) (E : ExprOk d) (V U : World) (g gx a : Nat) (had : a + d = 32) (x : Ex) (ts : List Tok) (hx : x.l.length ≤ 2) (y : Ex) (r : List Tok) (hr : exprT d false ts = .ok (y, r)) (w : World) (h : InP V U w g gx a x ts) :
    Calls Tryd.prog 41 #[.pointer (some ⟨g, 0, none⟩), .pointer (some ⟨gx, 0, none⟩)] w (PcPost V U g gx a (stepP (exprT d) .ar x ts)) := by
  obtain ⟨i0, hi, hz0, hz1, hz2'⟩ := info_parts ex_info
  have HI := Lib.hid h
  have HR := Lib.hid (show stepP (exprT d) .ar x ts = .ok (x.push y, r) by unfold stepP; rw [hr])
  have HR0 := Lib.hid hr
  obtain ⟨hs, hg, hU, hG, A, c, es, hX⟩ := h
  have HD := Lib.hid (hs.V.1.self.drew)
  have HDA := Lib.hid (hs.V.1.self.alloc (.cells #[.int .i64 0, .int .i64 0, .string ⟨#[]⟩, .slice none 0 0] 46)).drew
  have HXX := Lib.hid hX
  obtain ⟨n, hn⟩ : ∃ n, es.length = n := ⟨_, rfl⟩
  have HLen := Lib.hid hn
  have hn2 : n ≤ 2 := by rw [← hn, hX.2.2.1]; exact hx
  have hgx := hX.lt
  have HK := Lib.hid hX.1
  have hbk := hX.1
  rw [hn] at HK hbk
  obtain ⟨⟨c0, c1, c2, c3⟩, f0, f1, f2, f3⟩ := hbk.four
  have HS := Lib.hid hs
  clear hr hs hX hbk hG hn
  go_enter Tryd.func41, Tryd.ntmps41
  go_wp2_with (fail)
  refine wp_region_any (by kernel_rfl) ?_
  change wpAny _ _ _ _ _ _ _ w.drew
  refine any_take (i := 0) (v := ?_) (some 4) rfl rfl (by kernel_rfl) (by kernel_rfl) (by kernel_rfl) (fun _ _ _ h => h) (Or.inl ⟨by rfl, ?_⟩) ?_
  rotate_left 1
  · intro w'; go_simp; try with_reducible rfl
  try simp only [Act.put, List.setIfInBounds_toArray, List.set_cons_zero, List.set_cons_succ]
  refine any_take (i := 1) (v := ?_) (some 5) rfl rfl (by kernel_rfl) (by kernel_rfl) (by kernel_rfl) (fun _ _ _ h => h) (Or.inl ⟨by rfl, ?_⟩) ?_
  rotate_left 1
  · intro w'; go_simp; try with_reducible rfl
  try simp only [Act.put, List.setIfInBounds_toArray, List.set_cons_zero, List.set_cons_succ]
  refine any_take (i := 2) (v := ?_) (some 6) rfl rfl (by kernel_rfl) (by kernel_rfl) (by kernel_rfl) (fun _ _ _ h => h) (Or.inl ⟨by rfl, ?_⟩) ?_
  rotate_left 1
  · intro w'; go_simp; try with_reducible rfl
  try simp only [Act.put, List.setIfInBounds_toArray, List.set_cons_zero, List.set_cons_succ]
  refine any_take (i := 4) (v := ?_) (some 8) rfl rfl (by kernel_rfl) (by kernel_rfl) (by kernel_rfl) (fun _ _ _ h => h) (Or.inl ⟨by rfl, ?_⟩) ?_
  rotate_left 1
  · intro w'; go_simp; try with_reducible rfl
  try simp only [Act.put, List.setIfInBounds_toArray, List.set_cons_zero, List.set_cons_succ]
  refine till_take (i := 3) (v := ?_) (S := fun w' => w'.cell? ⟨gx, 3, none⟩ = some (.slice A n c)) (some 7) rfl rfl (by kernel_rfl) (by kernel_rfl) (by kernel_rfl) (fun _ _ _ h => h) (Or.inl ⟨by rfl, ?_⟩) c3 ?_
  rotate_left 1
  · intro w' hSw; go_simp; try with_reducible rfl
  try simp only [Act.put, List.setIfInBounds_toArray, List.set_cons_zero, List.set_cons_succ]
  refine till_move (q := 6) (v := ?_) (some 10) rfl rfl (by kernel_rfl) (by kernel_rfl) (by kernel_rfl) (by kernel_rfl) (fun _ _ _ h => h) (Or.inl ⟨by rfl, ?_⟩) ?_
  rotate_left 1
  · intro w'; go_simp; try with_reducible rfl
  try simp only [Act.put, List.setIfInBounds_toArray, List.set_cons_zero, List.set_cons_succ]
  refine till_two (j := 5) (k := 7) (by kernel_rfl) rfl rfl (fun K hK => ?_) (fun K hK => ?_)
  · skip
    try simp only [List.getElem_toArray, List.getElem_cons_succ, List.getElem_cons_zero]
    rw [if_pos (by rfl)]
    go_simp
    go_at_call 29
    (with_reducible refine (ex_yes E had (HS.out.rel HD.out) HR0.out).mono ?_)
    rintro e w2 ⟨vx, rfl, ex, s2, g2⟩
    have K2 := HK.out.drew.grown g2 (fun e => by injection e; omega)
    have HM := Lib.hid (mid_one HI.out HXX.out HD.out g2 s2 ex (.cells #[.int .i64 0, .int .i64 0, .string ⟨#[]⟩, .slice none 0 0] 46))
    have HZb := Lib.hid (Bk.new w2 46 #[.int .i64 0, .int .i64 0, .string ⟨#[]⟩, .slice none 0 0])
    refine hK.out _ _ (K2.cell 3) ?_
    clear hK K
    try simp only [Act.put, List.setIfInBounds_toArray, List.set_cons_zero, List.set_cons_succ]
    refine till_one (j := 7) (by kernel_rfl) rfl (fun K hK => ?_)
    try simp only [List.getElem_toArray, List.getElem_cons_succ, List.getElem_cons_zero]
    go_simp
    refine hK.out _ _ ((K2.alloc (.cells #[.int .i64 0, .int .i64 0, .string ⟨#[]⟩, .slice none 0 0] 46)).cell 3) ?_
    clear hK K
    try simp only [Act.put, List.setIfInBounds_toArray, List.set_cons_zero, List.set_cons_succ]
    rw [HLen.out] at HM
    refine till_late (j := 8) (by kernel_rfl) rfl (by kernel_rfl) (fun K hK => ?_)
    try simp only [List.getElem_toArray, List.getElem_cons_succ, List.getElem_cons_zero]
    rw [if_pos (by rfl)]
    refine wp_append_lies _ _ _ _ rfl (gx + 1) 46 i0 _ 4 56 Tryd.underlying44 hi hz0 hz1 hz2' rfl (by decide) (.slice A n c) n (cellsEs es) rfl HM.out.own ⟨w2.heap.size, 0, none⟩ 1 1 (cellsE (0, 0, [], none, 0, 0)) rfl rfl (World.news_of_block HZb.out) (cellsE_one _) (by decide) (by unfold maxLen; omega) (by omega) HM.out.base _ (by rfl) ?_
    intro g' cap w3 hown3 hgrow hat hlt3
    have HP := Lib.hid (And.intro hown3 (And.intro hgrow hat))
    obtain ⟨⟨y0, y1, y2, y3⟩, v0, v1, v2, v3⟩ := own_last hown3 HLen.out
    have K3 := HM.out.box hgrow
    obtain ⟨⟨x0, x1, x2, x3⟩, u0, u1, u2, u3⟩ := K3.four
    have hgg : ¬ g' = gx := HM.out.apart hown3
    have hgg' : ¬ gx = g' := fun e => hgg e.symm
    clear hown3 hgrow hat K3
    refine hK.out _ _ ?_
    clear hK K
    try simp only [Act.put, List.setIfInBounds_toArray, List.set_cons_zero, List.set_cons_succ]
    refine till_rest (by kernel_rfl) ?_
    refine any_take (i := 9) (v := ?_) (some 13) rfl rfl (by kernel_rfl) (by kernel_rfl) (by kernel_rfl) (fun _ _ _ h => h) (Or.inl ⟨by rfl, ?_⟩) ?_
    rotate_left 1
    · intro w'; go_simp; rw [if_pos (show (n : Int) < (n : Int) + 1 by omega)]
    try simp only [Act.put, List.setIfInBounds_toArray, List.set_cons_zero, List.set_cons_succ]
    refine any_take (i := 11) (v := ?_) (some 14) rfl rfl (by kernel_rfl) (by kernel_rfl) (by kernel_rfl) (fun _ _ _ h => h) (Or.inl ⟨by rfl, ?_⟩) ?_
    rotate_left 1
    · intro w'; go_simp; try with_reducible rfl
    try simp only [Act.put, List.setIfInBounds_toArray, List.set_cons_zero, List.set_cons_succ]
    refine any_take (i := 12) (v := ?_) (some 15) rfl rfl (by kernel_rfl) (by kernel_rfl) (by kernel_rfl) (fun _ _ _ h => h) (Or.inl ⟨by rfl, ?_⟩) ?_
    rotate_left 1
    · intro w'; go_simp; try with_reducible rfl
    try simp only [Act.put, List.setIfInBounds_toArray, List.set_cons_zero, List.set_cons_succ]
    refine any_two (j := 10) (k := 13) (by kernel_rfl) rfl rfl (fun K hK => ?_) (fun K hK => ?_)
    · skip
      try simp only [List.getElem_toArray, List.getElem_cons_succ, List.getElem_cons_zero]
      go_simp
      refine hK _ _ ?_
      clear hK K
      try simp only [Act.put, List.setIfInBounds_toArray, List.set_cons_zero, List.set_cons_succ]
      refine any_one (j := 13) (by kernel_rfl) rfl (fun K hK => ?_)
      try simp only [List.getElem_toArray, List.getElem_cons_succ, List.getElem_cons_zero]
      go_simp
      refine hK _ _ ?_
      clear hK K
      try simp only [Act.put, List.setIfInBounds_toArray, List.set_cons_zero, List.set_cons_succ]
      refine any_done (by kernel_rfl) ?_ _
      go_end0
      refine PcPost.yes HR.out rfl ?_
      have HPu := (HM.out.pushed HP.out HLen.out).1
      have HPv := fun W h => HM.out.push HP.out HLen.out hx W h
      unfold put4 at HPu
      exact HPv _ HPu
    · skip
      try simp only [List.getElem_toArray, List.getElem_cons_succ, List.getElem_cons_zero]
      go_simp
      refine hK _ _ ?_
      clear hK K
      try simp only [Act.put, List.setIfInBounds_toArray, List.set_cons_zero, List.set_cons_succ]
      refine any_one (j := 10) (by kernel_rfl) rfl (fun K hK => ?_)
      try simp only [List.getElem_toArray, List.getElem_cons_succ, List.getElem_cons_zero]
      go_simp
      refine hK _ _ ?_
      clear hK K
      try simp only [Act.put, List.setIfInBounds_toArray, List.set_cons_zero, List.set_cons_succ]
      refine any_done (by kernel_rfl) ?_ _
      go_end0
      refine PcPost.yes HR.out rfl ?_
      have HPu := (HM.out.pushed HP.out HLen.out).2
      have HPv := fun W h => HM.out.push HP.out HLen.out hx W h
      unfold put4 at HPu
      exact HPv _ HPu
  · skip
    try simp only [List.getElem_toArray, List.getElem_cons_succ, List.getElem_cons_zero]
    go_simp
    refine hK.out _ _ ((HK.out.alloc (.cells #[.int .i64 0, .int .i64 0, .string ⟨#[]⟩, .slice none 0 0] 46)).drew.cell 3) ?_
    clear hK K
    try simp only [Act.put, List.setIfInBounds_toArray, List.set_cons_zero, List.set_cons_succ]
    refine till_one (j := 5) (by kernel_rfl) rfl (fun K hK => ?_)
    try simp only [List.getElem_toArray, List.getElem_cons_succ, List.getElem_cons_zero]
    rw [if_pos (by rfl)]
    go_simp
    go_at_call 29
    (with_reducible refine (ex_yes E had (HS.out.rel HDA.out) HR0.out).mono ?_)
    rintro e w2 ⟨vx, rfl, ex, s2, g2⟩
    have K2 := (HK.out.alloc (.cells #[.int .i64 0, .int .i64 0, .string ⟨#[]⟩, .slice none 0 0] 46)).drew.grown g2 (fun e => by injection e; omega)
    have HM := Lib.hid (mid_two HI.out HXX.out HDA.out g2 s2 ex rfl)
    have HZb := Lib.hid ((Bk.new w 46 #[.int .i64 0, .int .i64 0, .string ⟨#[]⟩, .slice none 0 0]).drew.grown g2 (fun e => by injection e; have := HS.out.lt; omega))
    refine hK.out _ _ (K2.cell 3) ?_
    clear hK K
    try simp only [Act.put, List.setIfInBounds_toArray, List.set_cons_zero, List.set_cons_succ]
    rw [HLen.out] at HM
    refine till_late (j := 8) (by kernel_rfl) rfl (by kernel_rfl) (fun K hK => ?_)
    try simp only [List.getElem_toArray, List.getElem_cons_succ, List.getElem_cons_zero]
    rw [if_pos (by rfl)]
    refine wp_append_lies _ _ _ _ rfl (gx + 1) 46 i0 _ 4 56 Tryd.underlying44 hi hz0 hz1 hz2' rfl (by decide) (.slice A n c) n (cellsEs es) rfl HM.out.own ⟨w.heap.size, 0, none⟩ 1 1 (cellsE (0, 0, [], none, 0, 0)) rfl rfl (World.news_of_block HZb.out) (cellsE_one _) (by decide) (by unfold maxLen; omega) (by omega) HM.out.base _ (by rfl) ?_
    intro g' cap w3 hown3 hgrow hat hlt3
    have HP := Lib.hid (And.intro hown3 (And.intro hgrow hat))
    obtain ⟨⟨y0, y1, y2, y3⟩, v0, v1, v2, v3⟩ := own_last hown3 HLen.out
    have K3 := HM.out.box hgrow
    obtain ⟨⟨x0, x1, x2, x3⟩, u0, u1, u2, u3⟩ := K3.four
    have hgg : ¬ g' = gx := HM.out.apart hown3
    have hgg' : ¬ gx = g' := fun e => hgg e.symm
    clear hown3 hgrow hat K3
    refine hK.out _ _ ?_
    clear hK K
    try simp only [Act.put, List.setIfInBounds_toArray, List.set_cons_zero, List.set_cons_succ]
    refine till_rest (by kernel_rfl) ?_
    refine any_take (i := 9) (v := ?_) (some 13) rfl rfl (by kernel_rfl) (by kernel_rfl) (by kernel_rfl) (fun _ _ _ h => h) (Or.inl ⟨by rfl, ?_⟩) ?_
    rotate_left 1
    · intro w'; go_simp; rw [if_pos (show (n : Int) < (n : Int) + 1 by omega)]
    try simp only [Act.put, List.setIfInBounds_toArray, List.set_cons_zero, List.set_cons_succ]
    refine any_take (i := 11) (v := ?_) (some 14) rfl rfl (by kernel_rfl) (by kernel_rfl) (by kernel_rfl) (fun _ _ _ h => h) (Or.inl ⟨by rfl, ?_⟩) ?_
    rotate_left 1
    · intro w'; go_simp; try with_reducible rfl
    try simp only [Act.put, List.setIfInBounds_toArray, List.set_cons_zero, List.set_cons_succ]
    refine any_take (i := 12) (v := ?_) (some 15) rfl rfl (by kernel_rfl) (by kernel_rfl) (by kernel_rfl) (fun _ _ _ h => h) (Or.inl ⟨by rfl, ?_⟩) ?_
    rotate_left 1
    · intro w'; go_simp; try with_reducible rfl
    try simp only [Act.put, List.setIfInBounds_toArray, List.set_cons_zero, List.set_cons_succ]
    refine any_two (j := 10) (k := 13) (by kernel_rfl) rfl rfl (fun K hK => ?_) (fun K hK => ?_)
    · skip
      try simp only [List.getElem_toArray, List.getElem_cons_succ, List.getElem_cons_zero]
      go_simp
      refine hK _ _ ?_
      clear hK K
      try simp only [Act.put, List.setIfInBounds_toArray, List.set_cons_zero, List.set_cons_succ]
      refine any_one (j := 13) (by kernel_rfl) rfl (fun K hK => ?_)
      try simp only [List.getElem_toArray, List.getElem_cons_succ, List.getElem_cons_zero]
      go_simp
      refine hK _ _ ?_
      clear hK K
      try simp only [Act.put, List.setIfInBounds_toArray, List.set_cons_zero, List.set_cons_succ]
      refine any_done (by kernel_rfl) ?_ _
      go_end0
      refine PcPost.yes HR.out rfl ?_
      have HPu := (HM.out.pushed HP.out HLen.out).1
      have HPv := fun W h => HM.out.push HP.out HLen.out hx W h
      unfold put4 at HPu
      exact HPv _ HPu
    · skip
      try simp only [List.getElem_toArray, List.getElem_cons_succ, List.getElem_cons_zero]
      go_simp
      refine hK _ _ ?_
      clear hK K
      try simp only [Act.put, List.setIfInBounds_toArray, List.set_cons_zero, List.set_cons_succ]
      refine any_one (j := 10) (by kernel_rfl) rfl (fun K hK => ?_)
      try simp only [List.getElem_toArray, List.getElem_cons_succ, List.getElem_cons_zero]
      go_simp
      refine hK _ _ ?_
      clear hK K
      try simp only [Act.put, List.setIfInBounds_toArray, List.set_cons_zero, List.set_cons_succ]
      refine any_done (by kernel_rfl) ?_ _
      go_end0
      refine PcPost.yes HR.out rfl ?_
      have HPu := (HM.out.pushed HP.out HLen.out).2
      have HPv := fun W h => HM.out.push HP.out HLen.out hx W h
      unfold put4 at HPu
      exact HPv _ HPu
set_option maxRecDepth 100000 in
set_option maxHeartbeats 1000000 in
theorem parg_no (d : Nat) (E : ExprOk d) (V U : World) (g gx a : Nat) (had : a + d = 32) (x : Ex) (ts : List Tok) (hx : x.l.length ≤ 2) (e0 : Int × Int) (hr : exprT d false ts = .error e0) (w : World) (h : InP V U w g gx a x ts) :
    Calls Tryd.prog 41 #[.pointer (some ⟨g, 0, none⟩), .pointer (some ⟨gx, 0, none⟩)] w (PcPost V U g gx a (stepP (exprT d) .ar x ts)) := by
  obtain ⟨i0, hi, hz0, hz1, hz2'⟩ := info_parts ex_info
  have HI := Lib.hid h
  have HR := Lib.hid (show stepP (exprT d) .ar x ts = .error e0 by unfold stepP; rw [hr])
  have HR0 := Lib.hid hr
  obtain ⟨hs, hg, hU, hG, A, c, es, hX⟩ := h
  have HD := Lib.hid (hs.V.1.self.drew)
  have HDA := Lib.hid (hs.V.1.self.alloc (.cells #[.int .i64 0, .int .i64 0, .string ⟨#[]⟩, .slice none 0 0] 46)).drew
  have HXX := Lib.hid hX
  obtain ⟨n, hn⟩ : ∃ n, es.length = n := ⟨_, rfl⟩
  have HLen := Lib.hid hn
  have hn2 : n ≤ 2 := by rw [← hn, hX.2.2.1]; exact hx
  have hgx := hX.lt
  have HK := Lib.hid hX.1
  have hbk := hX.1
  rw [hn] at HK hbk
  obtain ⟨⟨c0, c1, c2, c3⟩, f0, f1, f2, f3⟩ := hbk.four
  have HS := Lib.hid hs
  clear hr hs hX hbk hG hn
  go_enter Tryd.func41, Tryd.ntmps41
  go_wp2_with (fail)
  refine wp_region_any (by kernel_rfl) ?_
  change wpAny _ _ _ _ _ _ _ w.drew
  refine any_take (i := 0) (v := ?_) (some 4) rfl rfl (by kernel_rfl) (by kernel_rfl) (by kernel_rfl) (fun _ _ _ h => h) (Or.inl ⟨by rfl, ?_⟩) ?_
  rotate_left 1
  · intro w'; go_simp; try with_reducible rfl
  try simp only [Act.put, List.setIfInBounds_toArray, List.set_cons_zero, List.set_cons_succ]
  refine any_take (i := 1) (v := ?_) (some 5) rfl rfl (by kernel_rfl) (by kernel_rfl) (by kernel_rfl) (fun _ _ _ h => h) (Or.inl ⟨by rfl, ?_⟩) ?_
  rotate_left 1
  · intro w'; go_simp; try with_reducible rfl
  try simp only [Act.put, List.setIfInBounds_toArray, List.set_cons_zero, List.set_cons_succ]
  refine any_take (i := 2) (v := ?_) (some 6) rfl rfl (by kernel_rfl) (by kernel_rfl) (by kernel_rfl) (fun _ _ _ h => h) (Or.inl ⟨by rfl, ?_⟩) ?_
  rotate_left 1
  · intro w'; go_simp; try with_reducible rfl
  try simp only [Act.put, List.setIfInBounds_toArray, List.set_cons_zero, List.set_cons_succ]
  refine any_take (i := 4) (v := ?_) (some 8) rfl rfl (by kernel_rfl) (by kernel_rfl) (by kernel_rfl) (fun _ _ _ h => h) (Or.inl ⟨by rfl, ?_⟩) ?_
  rotate_left 1
  · intro w'; go_simp; try with_reducible rfl
  try simp only [Act.put, List.setIfInBounds_toArray, List.set_cons_zero, List.set_cons_succ]
  refine till_take (i := 3) (v := ?_) (S := fun w' => w'.cell? ⟨gx, 3, none⟩ = some (.slice A n c)) (some 7) rfl rfl (by kernel_rfl) (by kernel_rfl) (by kernel_rfl) (fun _ _ _ h => h) (Or.inl ⟨by rfl, ?_⟩) c3 ?_
  rotate_left 1
  · intro w' hSw; go_simp; try with_reducible rfl
  try simp only [Act.put, List.setIfInBounds_toArray, List.set_cons_zero, List.set_cons_succ]
  refine till_move (q := 6) (v := ?_) (some 10) rfl rfl (by kernel_rfl) (by kernel_rfl) (by kernel_rfl) (by kernel_rfl) (fun _ _ _ h => h) (Or.inl ⟨by rfl, ?_⟩) ?_
  rotate_left 1
  · intro w'; go_simp; try with_reducible rfl
  try simp only [Act.put, List.setIfInBounds_toArray, List.set_cons_zero, List.set_cons_succ]
  refine till_two (j := 5) (k := 7) (by kernel_rfl) rfl rfl (fun K hK => ?_) (fun K hK => ?_)
  · skip
    try simp only [List.getElem_toArray, List.getElem_cons_succ, List.getElem_cons_zero]
    rw [if_pos (by rfl)]
    go_simp
    go_at_call 29
    (with_reducible refine (ex_no E had (HS.out.rel HD.out) HR0.out).mono ?_)
    rintro e w2 ⟨rfl, g2⟩
    exact ⟨rfl, PcPost.no HR.out rfl (grown_trans HI.out.2.2.2.1 (grown_trans (grown_rel (some g) HD.out) g2))⟩
  · skip
    try simp only [List.getElem_toArray, List.getElem_cons_succ, List.getElem_cons_zero]
    go_simp
    refine hK.out _ _ ((HK.out.alloc (.cells #[.int .i64 0, .int .i64 0, .string ⟨#[]⟩, .slice none 0 0] 46)).drew.cell 3) ?_
    clear hK K
    try simp only [Act.put, List.setIfInBounds_toArray, List.set_cons_zero, List.set_cons_succ]
    refine till_one (j := 5) (by kernel_rfl) rfl (fun K hK => ?_)
    try simp only [List.getElem_toArray, List.getElem_cons_succ, List.getElem_cons_zero]
    rw [if_pos (by rfl)]
    go_simp
    go_at_call 29
    (with_reducible refine (ex_no E had (HS.out.rel HDA.out) HR0.out).mono ?_)
    rintro e w2 ⟨rfl, g2⟩
    exact ⟨rfl, PcPost.no HR.out rfl (grown_trans HI.out.2.2.2.1 (grown_trans (grown_rel (some g) HDA.out) g2))⟩
set_option maxRecDepth 100000 in
set_option maxHeartbeats 1000000 in
theorem pwhen_yes (d : Nat) (E : ExprOk d) (V U : World) (g gx a : Nat) (had : a + d = 32) (x : Ex) (ts : List Tok) (hx : x.l.length ≤ 2) (y : Ex) (r : List Tok) (hr : exprT d true ts = .ok (y, r)) (w : World) (h : InP V U w g gx a x ts) :
    Calls Tryd.prog 44 #[.pointer (some ⟨g, 0, none⟩), .pointer (some ⟨gx, 0, none⟩)] w (PcPost V U g gx a (stepP (exprT d) .wh x ts)) := by
  obtain ⟨i0, hi, hz0, hz1, hz2'⟩ := info_parts ex_info
  have HI := Lib.hid h
  have HR := Lib.hid (show stepP (exprT d) .wh x ts = .ok (x.push y, r) by unfold stepP; rw [hr])
  have HR0 := Lib.hid hr
  obtain ⟨hs, hg, hU, hG, A, c, es, hX⟩ := h
  have HD := Lib.hid (hs.V.1.self.drew)
  have HDA := Lib.hid (hs.V.1.self.alloc (.cells #[.int .i64 0, .int .i64 0, .string ⟨#[]⟩, .slice none 0 0] 46)).drew
  have HXX := Lib.hid hX
  obtain ⟨n, hn⟩ : ∃ n, es.length = n := ⟨_, rfl⟩
  have HLen := Lib.hid hn
  have hn2 : n ≤ 2 := by rw [← hn, hX.2.2.1]; exact hx
  have hgx := hX.lt
  have HK := Lib.hid hX.1
  have hbk := hX.1
  rw [hn] at HK hbk
  obtain ⟨⟨c0, c1, c2, c3⟩, f0, f1, f2, f3⟩ := hbk.four
  have HS := Lib.hid hs
  clear hr hs hX hbk hG hn
  go_enter Tryd.func44, Tryd.ntmps44
  go_wp2_with (fail)
  refine wp_region_any (by kernel_rfl) ?_
  change wpAny _ _ _ _ _ _ _ w.drew
  refine any_take (i := 0) (v := ?_) (some 4) rfl rfl (by kernel_rfl) (by kernel_rfl) (by kernel_rfl) (fun _ _ _ h => h) (Or.inl ⟨by rfl, ?_⟩) ?_
  rotate_left 1
  · intro w'; go_simp; try with_reducible rfl
  try simp only [Act.put, List.setIfInBounds_toArray, List.set_cons_zero, List.set_cons_succ]
  refine any_take (i := 1) (v := ?_) (some 5) rfl rfl (by kernel_rfl) (by kernel_rfl) (by kernel_rfl) (fun _ _ _ h => h) (Or.inl ⟨by rfl, ?_⟩) ?_
  rotate_left 1
  · intro w'; go_simp; try with_reducible rfl
  try simp only [Act.put, List.setIfInBounds_toArray, List.set_cons_zero, List.set_cons_succ]
  refine any_take (i := 2) (v := ?_) (some 6) rfl rfl (by kernel_rfl) (by kernel_rfl) (by kernel_rfl) (fun _ _ _ h => h) (Or.inl ⟨by rfl, ?_⟩) ?_
  rotate_left 1
  · intro w'; go_simp; try with_reducible rfl
  try simp only [Act.put, List.setIfInBounds_toArray, List.set_cons_zero, List.set_cons_succ]
  refine any_take (i := 4) (v := ?_) (some 8) rfl rfl (by kernel_rfl) (by kernel_rfl) (by kernel_rfl) (fun _ _ _ h => h) (Or.inl ⟨by rfl, ?_⟩) ?_
  rotate_left 1
  · intro w'; go_simp; try with_reducible rfl
  try simp only [Act.put, List.setIfInBounds_toArray, List.set_cons_zero, List.set_cons_succ]
  refine till_take (i := 3) (v := ?_) (S := fun w' => w'.cell? ⟨gx, 3, none⟩ = some (.slice A n c)) (some 7) rfl rfl (by kernel_rfl) (by kernel_rfl) (by kernel_rfl) (fun _ _ _ h => h) (Or.inl ⟨by rfl, ?_⟩) c3 ?_
  rotate_left 1
  · intro w' hSw; go_simp; try with_reducible rfl
  try simp only [Act.put, List.setIfInBounds_toArray, List.set_cons_zero, List.set_cons_succ]
  refine till_move (q := 6) (v := ?_) (some 10) rfl rfl (by kernel_rfl) (by kernel_rfl) (by kernel_rfl) (by kernel_rfl) (fun _ _ _ h => h) (Or.inl ⟨by rfl, ?_⟩) ?_
  rotate_left 1
  · intro w'; go_simp; try with_reducible rfl
  try simp only [Act.put, List.setIfInBounds_toArray, List.set_cons_zero, List.set_cons_succ]
  refine till_two (j := 5) (k := 7) (by kernel_rfl) rfl rfl (fun K hK => ?_) (fun K hK => ?_)
  · skip
    try simp only [List.getElem_toArray, List.getElem_cons_succ, List.getElem_cons_zero]
    rw [if_pos (by rfl)]
    go_simp
    go_at_call 62
    (with_reducible refine (cond_yes E had (HS.out.rel HD.out) HR0.out).mono ?_)
    rintro e w2 ⟨vx, rfl, ex, s2, g2⟩
    have K2 := HK.out.drew.grown g2 (fun e => by injection e; omega)
    have HM := Lib.hid (mid_one HI.out HXX.out HD.out g2 s2 ex (.cells #[.int .i64 0, .int .i64 0, .string ⟨#[]⟩, .slice none 0 0] 46))
    have HZb := Lib.hid (Bk.new w2 46 #[.int .i64 0, .int .i64 0, .string ⟨#[]⟩, .slice none 0 0])
    refine hK.out _ _ (K2.cell 3) ?_
    clear hK K
    try simp only [Act.put, List.setIfInBounds_toArray, List.set_cons_zero, List.set_cons_succ]
    refine till_one (j := 7) (by kernel_rfl) rfl (fun K hK => ?_)
    try simp only [List.getElem_toArray, List.getElem_cons_succ, List.getElem_cons_zero]
    go_simp
    refine hK.out _ _ ((K2.alloc (.cells #[.int .i64 0, .int .i64 0, .string ⟨#[]⟩, .slice none 0 0] 46)).cell 3) ?_
    clear hK K
    try simp only [Act.put, List.setIfInBounds_toArray, List.set_cons_zero, List.set_cons_succ]
    rw [HLen.out] at HM
    refine till_late (j := 8) (by kernel_rfl) rfl (by kernel_rfl) (fun K hK => ?_)
    try simp only [List.getElem_toArray, List.getElem_cons_succ, List.getElem_cons_zero]
    rw [if_pos (by rfl)]
    refine wp_append_lies _ _ _ _ rfl (gx + 1) 46 i0 _ 4 56 Tryd.underlying44 hi hz0 hz1 hz2' rfl (by decide) (.slice A n c) n (cellsEs es) rfl HM.out.own ⟨w2.heap.size, 0, none⟩ 1 1 (cellsE (0, 0, [], none, 0, 0)) rfl rfl (World.news_of_block HZb.out) (cellsE_one _) (by decide) (by unfold maxLen; omega) (by omega) HM.out.base _ (by rfl) ?_
    intro g' cap w3 hown3 hgrow hat hlt3
    have HP := Lib.hid (And.intro hown3 (And.intro hgrow hat))
    obtain ⟨⟨y0, y1, y2, y3⟩, v0, v1, v2, v3⟩ := own_last hown3 HLen.out
    have K3 := HM.out.box hgrow
    obtain ⟨⟨x0, x1, x2, x3⟩, u0, u1, u2, u3⟩ := K3.four
    have hgg : ¬ g' = gx := HM.out.apart hown3
    have hgg' : ¬ gx = g' := fun e => hgg e.symm
    clear hown3 hgrow hat K3
    refine hK.out _ _ ?_
    clear hK K
    try simp only [Act.put, List.setIfInBounds_toArray, List.set_cons_zero, List.set_cons_succ]
    refine till_rest (by kernel_rfl) ?_
    refine any_take (i := 9) (v := ?_) (some 13) rfl rfl (by kernel_rfl) (by kernel_rfl) (by kernel_rfl) (fun _ _ _ h => h) (Or.inl ⟨by rfl, ?_⟩) ?_
    rotate_left 1
    · intro w'; go_simp; rw [if_pos (show (n : Int) < (n : Int) + 1 by omega)]
    try simp only [Act.put, List.setIfInBounds_toArray, List.set_cons_zero, List.set_cons_succ]
    refine any_take (i := 11) (v := ?_) (some 14) rfl rfl (by kernel_rfl) (by kernel_rfl) (by kernel_rfl) (fun _ _ _ h => h) (Or.inl ⟨by rfl, ?_⟩) ?_
    rotate_left 1
    · intro w'; go_simp; try with_reducible rfl
    try simp only [Act.put, List.setIfInBounds_toArray, List.set_cons_zero, List.set_cons_succ]
    refine any_take (i := 12) (v := ?_) (some 15) rfl rfl (by kernel_rfl) (by kernel_rfl) (by kernel_rfl) (fun _ _ _ h => h) (Or.inl ⟨by rfl, ?_⟩) ?_
    rotate_left 1
    · intro w'; go_simp; try with_reducible rfl
    try simp only [Act.put, List.setIfInBounds_toArray, List.set_cons_zero, List.set_cons_succ]
    refine any_two (j := 10) (k := 13) (by kernel_rfl) rfl rfl (fun K hK => ?_) (fun K hK => ?_)
    · skip
      try simp only [List.getElem_toArray, List.getElem_cons_succ, List.getElem_cons_zero]
      go_simp
      refine hK _ _ ?_
      clear hK K
      try simp only [Act.put, List.setIfInBounds_toArray, List.set_cons_zero, List.set_cons_succ]
      refine any_one (j := 13) (by kernel_rfl) rfl (fun K hK => ?_)
      try simp only [List.getElem_toArray, List.getElem_cons_succ, List.getElem_cons_zero]
      go_simp
      refine hK _ _ ?_
      clear hK K
      try simp only [Act.put, List.setIfInBounds_toArray, List.set_cons_zero, List.set_cons_succ]
      refine any_done (by kernel_rfl) ?_ _
      go_end0
      refine PcPost.yes HR.out rfl ?_
      have HPu := (HM.out.pushed HP.out HLen.out).1
      have HPv := fun W h => HM.out.push HP.out HLen.out hx W h
      unfold put4 at HPu
      exact HPv _ HPu
    · skip
      try simp only [List.getElem_toArray, List.getElem_cons_succ, List.getElem_cons_zero]
      go_simp
      refine hK _ _ ?_
      clear hK K
      try simp only [Act.put, List.setIfInBounds_toArray, List.set_cons_zero, List.set_cons_succ]
      refine any_one (j := 10) (by kernel_rfl) rfl (fun K hK => ?_)
      try simp only [List.getElem_toArray, List.getElem_cons_succ, List.getElem_cons_zero]
      go_simp
      refine hK _ _ ?_
      clear hK K
      try simp only [Act.put, List.setIfInBounds_toArray, List.set_cons_zero, List.set_cons_succ]
      refine any_done (by kernel_rfl) ?_ _
      go_end0
      refine PcPost.yes HR.out rfl ?_
      have HPu := (HM.out.pushed HP.out HLen.out).2
      have HPv := fun W h => HM.out.push HP.out HLen.out hx W h
      unfold put4 at HPu
      exact HPv _ HPu
  · skip
    try simp only [List.getElem_toArray, List.getElem_cons_succ, List.getElem_cons_zero]
    go_simp
    refine hK.out _ _ ((HK.out.alloc (.cells #[.int .i64 0, .int .i64 0, .string ⟨#[]⟩, .slice none 0 0] 46)).drew.cell 3) ?_
    clear hK K
    try simp only [Act.put, List.setIfInBounds_toArray, List.set_cons_zero, List.set_cons_succ]
    refine till_one (j := 5) (by kernel_rfl) rfl (fun K hK => ?_)
    try simp only [List.getElem_toArray, List.getElem_cons_succ, List.getElem_cons_zero]
    rw [if_pos (by rfl)]
    go_simp
    go_at_call 62
    (with_reducible refine (cond_yes E had (HS.out.rel HDA.out) HR0.out).mono ?_)
    rintro e w2 ⟨vx, rfl, ex, s2, g2⟩
    have K2 := (HK.out.alloc (.cells #[.int .i64 0, .int .i64 0, .string ⟨#[]⟩, .slice none 0 0] 46)).drew.grown g2 (fun e => by injection e; omega)
    have HM := Lib.hid (mid_two HI.out HXX.out HDA.out g2 s2 ex rfl)
    have HZb := Lib.hid ((Bk.new w 46 #[.int .i64 0, .int .i64 0, .string ⟨#[]⟩, .slice none 0 0]).drew.grown g2 (fun e => by injection e; have := HS.out.lt; omega))
    refine hK.out _ _ (K2.cell 3) ?_
    clear hK K
    try simp only [Act.put, List.setIfInBounds_toArray, List.set_cons_zero, List.set_cons_succ]
    rw [HLen.out] at HM
    refine till_late (j := 8) (by kernel_rfl) rfl (by kernel_rfl) (fun K hK => ?_)
    try simp only [List.getElem_toArray, List.getElem_cons_succ, List.getElem_cons_zero]
    rw [if_pos (by rfl)]
    refine wp_append_lies _ _ _ _ rfl (gx + 1) 46 i0 _ 4 56 Tryd.underlying44 hi hz0 hz1 hz2' rfl (by decide) (.slice A n c) n (cellsEs es) rfl HM.out.own ⟨w.heap.size, 0, none⟩ 1 1 (cellsE (0, 0, [], none, 0, 0)) rfl rfl (World.news_of_block HZb.out) (cellsE_one _) (by decide) (by unfold maxLen; omega) (by omega) HM.out.base _ (by rfl) ?_
    intro g' cap w3 hown3 hgrow hat hlt3
    have HP := Lib.hid (And.intro hown3 (And.intro hgrow hat))
    obtain ⟨⟨y0, y1, y2, y3⟩, v0, v1, v2, v3⟩ := own_last hown3 HLen.out
    have K3 := HM.out.box hgrow
    obtain ⟨⟨x0, x1, x2, x3⟩, u0, u1, u2, u3⟩ := K3.four
    have hgg : ¬ g' = gx := HM.out.apart hown3
    have hgg' : ¬ gx = g' := fun e => hgg e.symm
    clear hown3 hgrow hat K3
    refine hK.out _ _ ?_
    clear hK K
    try simp only [Act.put, List.setIfInBounds_toArray, List.set_cons_zero, List.set_cons_succ]
    refine till_rest (by kernel_rfl) ?_
    refine any_take (i := 9) (v := ?_) (some 13) rfl rfl (by kernel_rfl) (by kernel_rfl) (by kernel_rfl) (fun _ _ _ h => h) (Or.inl ⟨by rfl, ?_⟩) ?_
    rotate_left 1
    · intro w'; go_simp; rw [if_pos (show (n : Int) < (n : Int) + 1 by omega)]
    try simp only [Act.put, List.setIfInBounds_toArray, List.set_cons_zero, List.set_cons_succ]
    refine any_take (i := 11) (v := ?_) (some 14) rfl rfl (by kernel_rfl) (by kernel_rfl) (by kernel_rfl) (fun _ _ _ h => h) (Or.inl ⟨by rfl, ?_⟩) ?_
    rotate_left 1
    · intro w'; go_simp; try with_reducible rfl
    try simp only [Act.put, List.setIfInBounds_toArray, List.set_cons_zero, List.set_cons_succ]
    refine any_take (i := 12) (v := ?_) (some 15) rfl rfl (by kernel_rfl) (by kernel_rfl) (by kernel_rfl) (fun _ _ _ h => h) (Or.inl ⟨by rfl, ?_⟩) ?_
    rotate_left 1
    · intro w'; go_simp; try with_reducible rfl
    try simp only [Act.put, List.setIfInBounds_toArray, List.set_cons_zero, List.set_cons_succ]
    refine any_two (j := 10) (k := 13) (by kernel_rfl) rfl rfl (fun K hK => ?_) (fun K hK => ?_)
    · skip
      try simp only [List.getElem_toArray, List.getElem_cons_succ, List.getElem_cons_zero]
      go_simp
      refine hK _ _ ?_
      clear hK K
      try simp only [Act.put, List.setIfInBounds_toArray, List.set_cons_zero, List.set_cons_succ]
      refine any_one (j := 13) (by kernel_rfl) rfl (fun K hK => ?_)
      try simp only [List.getElem_toArray, List.getElem_cons_succ, List.getElem_cons_zero]
      go_simp
      refine hK _ _ ?_
      clear hK K
      try simp only [Act.put, List.setIfInBounds_toArray, List.set_cons_zero, List.set_cons_succ]
      refine any_done (by kernel_rfl) ?_ _
      go_end0
      refine PcPost.yes HR.out rfl ?_
      have HPu := (HM.out.pushed HP.out HLen.out).1
      have HPv := fun W h => HM.out.push HP.out HLen.out hx W h
      unfold put4 at HPu
      exact HPv _ HPu
    · skip
      try simp only [List.getElem_toArray, List.getElem_cons_succ, List.getElem_cons_zero]
      go_simp
      refine hK _ _ ?_
      clear hK K
      try simp only [Act.put, List.setIfInBounds_toArray, List.set_cons_zero, List.set_cons_succ]
      refine any_one (j := 10) (by kernel_rfl) rfl (fun K hK => ?_)
      try simp only [List.getElem_toArray, List.getElem_cons_succ, List.getElem_cons_zero]
      go_simp
      refine hK _ _ ?_
      clear hK K
      try simp only [Act.put, List.setIfInBounds_toArray, List.set_cons_zero, List.set_cons_succ]
      refine any_done (by kernel_rfl) ?_ _
      go_end0
      refine PcPost.yes HR.out rfl ?_
      have HPu := (HM.out.pushed HP.out HLen.out).2
      have HPv := fun W h => HM.out.push HP.out HLen.out hx W h
      unfold put4 at HPu
      exact HPv _ HPu
set_option maxRecDepth 100000 in
set_option maxHeartbeats 1000000 in
theorem pwhen_no (d : Nat) (E : ExprOk d) (V U : World) (g gx a : Nat) (had : a + d = 32) (x : Ex) (ts : List Tok) (hx : x.l.length ≤ 2) (e0 : Int × Int) (hr : exprT d true ts = .error e0) (w : World) (h : InP V U w g gx a x ts) :
    Calls Tryd.prog 44 #[.pointer (some ⟨g, 0, none⟩), .pointer (some ⟨gx, 0, none⟩)] w (PcPost V U g gx a (stepP (exprT d) .wh x ts)) := by
  obtain ⟨i0, hi, hz0, hz1, hz2'⟩ := info_parts ex_info
  have HI := Lib.hid h
  have HR := Lib.hid (show stepP (exprT d) .wh x ts = .error e0 by unfold stepP; rw [hr])
  have HR0 := Lib.hid hr
  obtain ⟨hs, hg, hU, hG, A, c, es, hX⟩ := h
  have HD := Lib.hid (hs.V.1.self.drew)
  have HDA := Lib.hid (hs.V.1.self.alloc (.cells #[.int .i64 0, .int .i64 0, .string ⟨#[]⟩, .slice none 0 0] 46)).drew
  have HXX := Lib.hid hX
  obtain ⟨n, hn⟩ : ∃ n, es.length = n := ⟨_, rfl⟩
  have HLen := Lib.hid hn
  have hn2 : n ≤ 2 := by rw [← hn, hX.2.2.1]; exact hx
  have hgx := hX.lt
  have HK := Lib.hid hX.1
  have hbk := hX.1
  rw [hn] at HK hbk
  obtain ⟨⟨c0, c1, c2, c3⟩, f0, f1, f2, f3⟩ := hbk.four
  have HS := Lib.hid hs
  clear hr hs hX hbk hG hn
  go_enter Tryd.func44, Tryd.ntmps44
  go_wp2_with (fail)
  refine wp_region_any (by kernel_rfl) ?_
  change wpAny _ _ _ _ _ _ _ w.drew
  refine any_take (i := 0) (v := ?_) (some 4) rfl rfl (by kernel_rfl) (by kernel_rfl) (by kernel_rfl) (fun _ _ _ h => h) (Or.inl ⟨by rfl, ?_⟩) ?_
  rotate_left 1
  · intro w'; go_simp; try with_reducible rfl
  try simp only [Act.put, List.setIfInBounds_toArray, List.set_cons_zero, List.set_cons_succ]
  refine any_take (i := 1) (v := ?_) (some 5) rfl rfl (by kernel_rfl) (by kernel_rfl) (by kernel_rfl) (fun _ _ _ h => h) (Or.inl ⟨by rfl, ?_⟩) ?_
  rotate_left 1
  · intro w'; go_simp; try with_reducible rfl
  try simp only [Act.put, List.setIfInBounds_toArray, List.set_cons_zero, List.set_cons_succ]
  refine any_take (i := 2) (v := ?_) (some 6) rfl rfl (by kernel_rfl) (by kernel_rfl) (by kernel_rfl) (fun _ _ _ h => h) (Or.inl ⟨by rfl, ?_⟩) ?_
  rotate_left 1
  · intro w'; go_simp; try with_reducible rfl
  try simp only [Act.put, List.setIfInBounds_toArray, List.set_cons_zero, List.set_cons_succ]
  refine any_take (i := 4) (v := ?_) (some 8) rfl rfl (by kernel_rfl) (by kernel_rfl) (by kernel_rfl) (fun _ _ _ h => h) (Or.inl ⟨by rfl, ?_⟩) ?_
  rotate_left 1
  · intro w'; go_simp; try with_reducible rfl
  try simp only [Act.put, List.setIfInBounds_toArray, List.set_cons_zero, List.set_cons_succ]
  refine till_take (i := 3) (v := ?_) (S := fun w' => w'.cell? ⟨gx, 3, none⟩ = some (.slice A n c)) (some 7) rfl rfl (by kernel_rfl) (by kernel_rfl) (by kernel_rfl) (fun _ _ _ h => h) (Or.inl ⟨by rfl, ?_⟩) c3 ?_
  rotate_left 1
  · intro w' hSw; go_simp; try with_reducible rfl
  try simp only [Act.put, List.setIfInBounds_toArray, List.set_cons_zero, List.set_cons_succ]
  refine till_move (q := 6) (v := ?_) (some 10) rfl rfl (by kernel_rfl) (by kernel_rfl) (by kernel_rfl) (by kernel_rfl) (fun _ _ _ h => h) (Or.inl ⟨by rfl, ?_⟩) ?_
  rotate_left 1
  · intro w'; go_simp; try with_reducible rfl
  try simp only [Act.put, List.setIfInBounds_toArray, List.set_cons_zero, List.set_cons_succ]
  refine till_two (j := 5) (k := 7) (by kernel_rfl) rfl rfl (fun K hK => ?_) (fun K hK => ?_)
  · skip
    try simp only [List.getElem_toArray, List.getElem_cons_succ, List.getElem_cons_zero]
    rw [if_pos (by rfl)]
    go_simp
    go_at_call 62
    (with_reducible refine (cond_no E had (HS.out.rel HD.out) HR0.out).mono ?_)
    rintro e w2 ⟨rfl, g2⟩
    exact ⟨rfl, PcPost.no HR.out rfl (grown_trans HI.out.2.2.2.1 (grown_trans (grown_rel (some g) HD.out) g2))⟩
  · skip
    try simp only [List.getElem_toArray, List.getElem_cons_succ, List.getElem_cons_zero]
    go_simp
    refine hK.out _ _ ((HK.out.alloc (.cells #[.int .i64 0, .int .i64 0, .string ⟨#[]⟩, .slice none 0 0] 46)).drew.cell 3) ?_
    clear hK K
    try simp only [Act.put, List.setIfInBounds_toArray, List.set_cons_zero, List.set_cons_succ]
    refine till_one (j := 5) (by kernel_rfl) rfl (fun K hK => ?_)
    try simp only [List.getElem_toArray, List.getElem_cons_succ, List.getElem_cons_zero]
    rw [if_pos (by rfl)]
    go_simp
    go_at_call 62
    (with_reducible refine (cond_no E had (HS.out.rel HDA.out) HR0.out).mono ?_)
    rintro e w2 ⟨rfl, g2⟩
    exact ⟨rfl, PcPost.no HR.out rfl (grown_trans HI.out.2.2.2.1 (grown_trans (grown_rel (some g) HDA.out) g2))⟩
end Go.Proofs.YtjhjdiaomnpkmaaDoor

namespace Go.Proofs.YtjhjdiaomnpkmaaDoor
open Go.RowKit Go.Lib
set_option linter.unusedVariables false
set_option linter.unusedSimpArgs false
def fnOf : Pc → FuncId
  | .ar => 41
  | .wh => 44
  | .na => 40
  | .am => 42
  | .pa => 43
  | .co => 75
/-- A piece as a value: a method bound to the parser. -/
def pvOf (g : Nat) (p : Pc) : Value := .func (.func (fnOf p)) #[.pointer (some ⟨g, 0, none⟩)] #[]
theorem piece_any (d : Nat) (E : ExprOk d) (V U : World) (g gx a : Nat) (had : a + d = 32) (p : Pc) (x : Ex) (ts : List Tok) (hx : x.l.length ≤ 2) (w : World) (h : InP V U w g gx a x ts) :
    Calls Tryd.prog (fnOf p) #[.pointer (some ⟨g, 0, none⟩), .pointer (some ⟨gx, 0, none⟩)] w (PcPost V U g gx a (stepP (exprT d) p x ts)) := by
  cases p with
  | ar =>
    cases hr : exprT d false ts with
    | error e0 => exact parg_no d E V U g gx a had x ts hx e0 hr w h
    | ok q => obtain ⟨y, r⟩ := q; exact parg_yes d E V U g gx a had x ts hx y r hr w h
  | wh =>
    cases hr : exprT d true ts with
    | error e0 => exact pwhen_no d E V U g gx a had x ts hx e0 hr w h
    | ok q => obtain ⟨y, r⟩ := q; exact pwhen_yes d E V U g gx a had x ts hx y r hr w h
  | na => exact pname_any V U g gx a x ts (exprT d) w h
  | am => exact pamount_any V U g gx a x ts (exprT d) w h
  | pa => exact ppart_any V U g gx a x ts (exprT d) w h
  | co => exact pcount_any V U g gx a x ts (exprT d) w h
theorem piece_yes {d : Nat} (E : ExprOk d) {V U : World} {g gx a : Nat} (had : a + d = 32) (p : Pc) {x y : Ex} {ts r : List Tok} (hx : x.l.length ≤ 2) (hr : stepP (exprT d) p x ts = .ok (y, r)) {w : World} (h : InP V U w g gx a x ts) :
    Calls Tryd.prog (fnOf p) #[.pointer (some ⟨g, 0, none⟩), .pointer (some ⟨gx, 0, none⟩)] w fun e w' => e = .returned (.tuple #[]) ∧ InP V U w' g gx a y r := by
  have := piece_any d E V U g gx a had p x ts hx w h
  rw [hr] at this
  exact this
theorem piece_no {d : Nat} (E : ExprOk d) {V U : World} {g gx a : Nat} (had : a + d = 32) (p : Pc) {x : Ex} {ts : List Tok} (hx : x.l.length ≤ 2) {e0 : Int × Int} (hr : stepP (exprT d) p x ts = .error e0) {w : World} (h : InP V U w g gx a x ts) :
    Calls Tryd.prog (fnOf p) #[.pointer (some ⟨g, 0, none⟩), .pointer (some ⟨gx, 0, none⟩)] w fun e w' => e = FLT e0.1 e0.2 ∧ U.grownBy w' (some g) := by
  have := piece_any d E V U g gx a had p x ts hx w h
  rw [hr] at this
  exact this
theorem step_len {f : Bool → List Tok → Told Ex} {p : Pc} {x y : Ex} {ts r : List Tok} (h : stepP f p x ts = .ok (y, r)) : y.l.length ≤ x.l.length + 1 := by
  unfold stepP at h
  cases p <;> simp only at h <;> split at h <;> (try cases h) <;> simp [Ex.push, Ex.num, Ex.name, Ex.l]
/-- What was built is the expression. -/
theorem XP.done {gx : Nat} {w : World} {x : Ex} {A : Option Addr} {c : Nat} {es : List El} (h : XP gx w x A c es) (W : World) (hs : w.heap.size ≤ W.heap.size) (hW : ∀ q, gx < q → q < w.heap.size → W.heap[q]? = w.heap[q]?) (S : Nat → Prop) (hS : ∀ q, gx < q → S q) : ExAt S W (x.k, x.n, x.nm, A, es.length, c) x := by
  obtain ⟨h1, h2, h3, h4, h5, h6, h7, h8⟩ := h
  obtain ⟨k, n, nm, l⟩ := x
  have h3 : es.length = l.length := h3
  have hrow : RowE (fun q => gx < q) w A es := ElsOwn.toks (base := gx + 1) (n := es.length) (c := c) (by unfold ElsOwn; exact h2) rfl (fun q hq => by have := (h2.lt q hq).1; omega)
  have hx : ExAt S W (k, n, nm, A, l.length, c) (.mk k n nm l) := .mk k n nm A c l es h5 h6 h7 h3 (hrow.mono hs fun q hq hl => ⟨hS q hq, hW q hq hl⟩) (fun i hi hi' => (h4 i hi hi').mono hs fun q hq hl => ⟨hS q hq.1, hW q hq.1 hl⟩)
  rw [h3]
  exact hx
def btwP (j : Nat) : UInt8 := if j = 0 then 40 else 44
theorem btwP_or (j : Nat) : btwP j = 40 ∨ btwP j = 41 ∨ btwP j = 44 := by unfold btwP; split <;> simp
end Go.Proofs.YtjhjdiaomnpkmaaDoor
