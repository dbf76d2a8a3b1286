/- The law on prices that swing, walked. -/
import Derived.Test.YtjhjdiaomnpkmaaDoorZL
import Derived.Test.YtjhjdiaomnpkmaaDoorZ00
import Derived.Test.YtjhjdiaomnpkmaaDoorZ01
import Derived.Test.YtjhjdiaomnpkmaaDoorZ02
import Derived.Test.YtjhjdiaomnpkmaaDoorZ03
import Derived.Test.YtjhjdiaomnpkmaaDoorZ04
import Derived.Test.YtjhjdiaomnpkmaaDoorZ07
import Derived.Test.YtjhjdiaomnpkmaaDoorZ08
namespace Go.Proofs.YtjhjdiaomnpkmaaDoor
open Go.RowKit Go.Lib
set_option linter.unusedVariables false
set_option linter.unusedSimpArgs false
theorem shl15s {x : Int} (h0 : 0 ≤ x) (h1 : x ≤ 1099511627776) {k : Nat} (hk : k ≤ 6) : IntKind.i64.wrap (x * 2 ^ k) = x * 2 ^ k ∧ 0 ≤ x * 2 ^ k ∧ x * 2 ^ k ≤ x * 64 := by
  have : k = 0 ∨ k = 1 ∨ k = 2 ∨ k = 3 ∨ k = 4 ∨ k = 5 ∨ k = 6 := by omega
  rw [IntKind.wrap_i64]
  rcases this with e | e | e | e | e | e | e <;> subst e <;> omega
theorem fitS15 {cl : Int} (h0 : 0 ≤ cl) (h1 : cl ≤ 100) : CfFit (100, 900, 0, cl, 0, tA14) := ⟨⟨(show i64 100 from ⟨by decide, by decide⟩), (show i64 900 from ⟨by decide, by decide⟩), (show i64 0 from ⟨by decide, by decide⟩), ⟨by show (_ : Int) ≤ cl; omega, by show cl ≤ (_ : Int); omega⟩, (show i64 0 from ⟨by decide, by decide⟩)⟩, (show tA14.length ≤ 9223372036854775807 from by decide)⟩
theorem Rel.right3s {w w' : World} (h : Rel w w') : Rel w' w' := h.self
/-- What lies in memory between two rounds: the config's box, the pace's, its ring. -/
structure SwM (w0 w : World) (gC gP : Nat) (cl la at_ sw : Int) (L : List Int) (A : Option Addr) (n k : Nat) : Prop where
  rel : Rel w0 w
  hc : Bk w gC 25 #[.int .i64 100, .int .i64 900, .int .i64 0, .int .i64 cl, .int .i64 0, .string ⟨#[108, 111, 119, 101, 115, 116]⟩]
  hp : Bk w gP 28 #[.int .i64 la, .int .i64 at_, .slice A n k, .int .i64 sw]
  pa : PaAt w (la, at_, L, sw) A n k
  ne : ∀ a, A = some a → a.block ≠ gP
  sp : w0.heap.size ≤ gP
section
variable {w0 w w' : World} {gC gP : Nat} {cl la at_ sw : Int} {L : List Int} {A : Option Addr} {n k : Nat}
theorem SwM.to (h : SwM w0 w gC gP cl la at_ sw L A n k) (hr : Rel w w') : SwM w0 w' gC gP cl la at_ sw L A n k :=
  ⟨h.rel.trans hr, h.hc.rel hr, h.hp.rel hr, h.pa.rel hr, h.ne, h.sp⟩
theorem SwM.store (h : SwM w0 w gC gP cl la at_ sw L A n k) {la' at' sw' : Int} {L' : List Int} {A' : Option Addr} {n' k' : Nat} (hp : PaAt w (la', at', L', sw') A' n' k') (hne : ∀ a, A' = some a → a.block ≠ gP) : SwM w0 ((((w.setCell ⟨gP, 0, none⟩ (.int .i64 la')).setCell ⟨gP, 1, none⟩ (.int .i64 at')).setCell ⟨gP, 2, none⟩ (.slice A' n' k')).setCell ⟨gP, 3, none⟩ (.int .i64 sw')) gC gP cl la' at' sw' L' A' n' k' := by
  have hxp : gC ≠ gP := Bk.ne h.hc h.hp (by decide)
  exact ⟨h.rel.put4 h.sp _ _ _ _, ((((h.hc.far (p := ⟨gP, 0, none⟩) hxp _).far (p := ⟨gP, 1, none⟩) hxp _).far (p := ⟨gP, 2, none⟩) hxp _).far (p := ⟨gP, 3, none⟩) hxp _), h.hp.put4 _ _ _ _, ⟨hp.1, hp.2.1, hp.2.2.put4 hne _ _ _ _⟩, hne, h.sp⟩
end
set_option maxRecDepth 100000 in
set_option maxHeartbeats 16000000 in
theorem PaceSwings_at (H : PaceOk) (x y z : Int) (hx : i64 x) (hy : i64 y) (hz : i64 z) (w : World) (hr : Rel w w) :
    Calls Tryd.prog 3 #[.int .i64 x, .int .i64 y, .int .i64 z] w fun e w' => e = .returned (.bool true) ∧ Rel w w' := by
  have HR := Lib.hid hr
  have HAw := Lib.hid (fun (w : World) (hr : Rel w w) => awake15_any H w hr)
  obtain ⟨k1, hk1⟩ : ∃ q, pk x 50 = q := ⟨_, rfl⟩
  have b1 := pk_bd x 50 (by omega)
  rw [hk1] at b1
  obtain ⟨b10, b11⟩ := b1
  have HK1 := Lib.hid hk1
  obtain ⟨cl, hcl⟩ : ∃ q, 1 + k1 = q := ⟨_, rfl⟩
  have c0 : 1 ≤ cl := by omega
  have c1 : cl ≤ 50 := by omega
  obtain ⟨k2, hk2⟩ : ∃ q, pk y 14 = q := ⟨_, rfl⟩
  have b2 := pk_bd y 14 (by omega)
  rw [hk2] at b2
  obtain ⟨b20, b21⟩ := b2
  obtain ⟨n, hn⟩ : ∃ n : Nat, k2 = (n : Int) := ⟨k2.toNat, by omega⟩
  subst hn
  have HK2 := Lib.hid hk2
  have hn13 : n ≤ 13 := by omega
  obtain ⟨k3, hk3⟩ : ∃ q, pk z 600 = q := ⟨_, rfl⟩
  have b3 := pk_bd z 600 (by omega)
  rw [hk3] at b3
  obtain ⟨b30, b31⟩ := b3
  have HK3 := Lib.hid hk3
  obtain ⟨s, hs⟩ : ∃ q, 1 + k3 = q := ⟨_, rfl⟩
  have s0 : 1 ≤ s := by omega
  have s1 : s ≤ 600 := by omega
  have KD := Lib.hid (fun (la at_ sw : Int) (L : List Int) (A : Option Addr) (n k : Nat) (tg now : Int) (ht : i64 tg) (hn : i64 now) (la' at' sw' : Int) (R' : List Int) (g : Bool) (hq : decP (100, 900, 0, cl, 0, tA14) (la, at_, L, sw) tg now = (la', at', R', sw')) (hg : goP (100, 900, 0, cl, 0, tA14) (la, at_, L, sw) tg now = g) (w : World) (hr : Rel w w) (hp : PaAt w (la, at_, L, sw) A n k) => pdecw15 H (S := ⟨#[108, 111, 119, 101, 115, 116]⟩) (t := tA14) rfl (fitS15 (by omega) (by omega)) (A := A) (n := n) (k := k) ht hn hq hg w hr hp)
  have KR := Lib.hid (fun (la at_ sw re : Int) (L : List Int) (A : Option Addr) (n k : Nat) (hre : readyP (100, 900, 0, cl, 0, tA14) (la, at_, L, sw) = re) (w : World) (hr : Rel w w) (hp : PaAt w (la, at_, L, sw) A n k) => pready15 H (S := ⟨#[108, 111, 119, 101, 115, 116]⟩) (t := tA14) rfl (fitS15 (cl := cl) (by omega) (by omega)) hre w hr hp)
  clear H hr hk1 hk2 hk3
  go_enter Tryd.func3, Tryd.ntmps3
  go_upto_region 2 with (go_at_call 4; (with_reducible refine (HAw.out w HR.out).mono ?_); rintro e w1 ⟨rfl, h1⟩; have R1 := Lib.hid h1; clear h1)
  go_upto_region 3 with (go_at_call 5; (with_reducible refine (pk15_as x 50 k1 HK1 hx (by omega) (by omega) _).mono ?_); rintro e w' ⟨rfl, rfl⟩)
  have HC := Lib.hid (Bk.new w1 25 #[.int .i64 100, .int .i64 900, .int .i64 0, .int .i64 cl, .int .i64 0, .string ⟨#[108, 111, 119, 101, 115, 116]⟩])
  have R2 := Lib.hid (R1.out.alloc (.cells #[.int .i64 100, .int .i64 900, .int .i64 0, .int .i64 cl, .int .i64 0, .string ⟨#[108, 111, 119, 101, 115, 116]⟩] 25))
  obtain ⟨W2, hW2⟩ : ∃ W, w1.alloc (.cells #[.int .i64 100, .int .i64 900, .int .i64 0, .int .i64 cl, .int .i64 0, .string ⟨#[108, 111, 119, 101, 115, 116]⟩] 25) = W := ⟨_, rfl⟩
  obtain ⟨gC, hgC⟩ : ∃ g, w1.heap.size = g := ⟨_, rfl⟩
  rw [hW2] at HC R2
  rw [hgC] at HC
  try rw [hW2]
  try rw [hgC]
  clear hW2 hgC
  go_upto_region 4 with (fail)
  have HP := Lib.hid (Bk.new W2 28 #[.int .i64 0, .int .i64 0, .slice none 0 0, .int .i64 0])
  have HC3 := Lib.hid (HC.out.alloc (.cells #[.int .i64 0, .int .i64 0, .slice none 0 0, .int .i64 0] 28))
  have R3 := Lib.hid (R2.out.alloc (.cells #[.int .i64 0, .int .i64 0, .slice none 0 0, .int .i64 0] 28))
  have SP := Lib.hid R2.out.size
  obtain ⟨W3, hW3⟩ : ∃ W, W2.alloc (.cells #[.int .i64 0, .int .i64 0, .slice none 0 0, .int .i64 0] 28) = W := ⟨_, rfl⟩
  obtain ⟨gP, hgP⟩ : ∃ g, W2.heap.size = g := ⟨_, rfl⟩
  rw [hW3] at HP HC3 R3
  rw [hgP] at HP SP
  try rw [hW3]
  try rw [hgP]
  clear hW3 hgP HC
  have HM0 := Lib.hid (show SwM w W3 gC gP cl 0 0 0 [] none 0 0 from ⟨R3.out, HC3.out, HP.out, pa_no W3, fun a ha => absurd ha (by simp), SP.out⟩)
  clear HC3 R3 HP SP R1 R2
  go_upto_block 0 with (go_at_call 5; (with_reducible refine (pk15_as y 14 (n : Int) HK2 hy (by omega) (by omega) _).mono ?_); rintro e w' ⟨rfl, rfl⟩)
  go_cut [10] (fun nv wx => ∃ (now la at_ sw : Int) (L : List Int) (A : Option Addr) (q k : Nat), nv = .int .i64 now ∧ SwI cl s n (la, at_, L, sw) now ∧ SwM w wx gC gP cl la at_ sw L A q k)
  case first =>
    go_wp2_with (fail)
    go_loopw [10, 12] (fun nv i wr => ∃ (j : Nat) (now la at_ sw : Int) (L : List Int) (A : Option Addr) (q k : Nat), j ≤ n ∧ i = .int .i64 (j : Int) ∧ nv = .int .i64 now ∧ Hid (SwI cl s j (la, at_, L, sw) now) ∧ Hid (SwM w wr gC gP cl la at_ sw L A q k)) (fun _ i _ => n - (RowKit.intOf i).toNat)
    case atStart => exact ⟨0, 0, 0, 0, 0, [], none, 0, 0, by omega, rfl, rfl, Lib.hid (sw_zero cl s), HM0⟩
    case round =>
      obtain ⟨j, now, la, at_, sw, L, A, q, k, hj, rfl, rfl, HI, HM⟩ := hrel
      by_cases hlt : j < n
      · have hij : (j : Int) < (n : Int) := by omega
        have hij0 : (0 : Int) ≤ (j : Int) := by omega
        obtain ⟨g1, g2, g3, g4⟩ := sw_next c0 c1 s0 s1 (by omega) HI.out
        have n0 : 0 ≤ now := HI.out.now0
        have n1 : now ≤ 6400 * (j : Int) := HI.out.now1
        have htb := tarS_bd s0 s1 j
        obtain ⟨r, hr⟩ : ∃ r : Nat, j % 2 = r := ⟨_, rfl⟩
        have hr1 : r ≤ 1 := by omega
        obtain ⟨v, hv⟩ : ∃ v : Int, (r : Int) * s = v := ⟨_, rfl⟩
        have htv : tarS s j = 200 + v := by unfold tarS; rw [hr, hv]
        obtain ⟨tg, htg⟩ : ∃ q, 200 + v = q := ⟨_, rfl⟩
        rw [htv, htg] at g1 g2 g3 g4 htb
        obtain ⟨t0, t1⟩ := htb
        have m1 : ((j : Int)).tmod 2 = (r : Int) := by rw [Int.tmod_eq_emod_of_nonneg (by omega)]; omega
        have m2 : IntKind.i64.wrap ((r : Int) * s) = v := by rw [hv, IntKind.wrap_i64]; omega
        have m3 : IntKind.i64.wrap v = v := by rw [IntKind.wrap_i64]; omega
        have m4 : IntKind.i64.wrap (r : Int) = (r : Int) := by rw [IntKind.wrap_i64]; omega
        obtain ⟨d, hd⟩ : ∃ d, swS j = d := ⟨_, rfl⟩
        have hd6 : d ≤ 6 := by rw [← hd]; unfold swS; omega
        rw [hd] at g2 g3 g4
        obtain ⟨⟨la2, at2, L2, sw2⟩, hnp⟩ : ∃ z, nextP (la, at_, L, sw) tg now = z := ⟨_, rfl⟩
        rw [hnp] at g2 g3 g4
        have hdec : decP (100, 900, 0, cl, 0, tA14) (la, at_, L, sw) tg now = (la2, at2, L2, sw2) := by
          have e : decP (cfS cl) (la, at_, L, sw) tg now = (la2, at2, L2, sw2) := by unfold decP; rw [if_pos g1, hnp]
          exact e
        obtain rfl : sw2 = (d : Int) := g2
        obtain ⟨sh0, sh1, sh2⟩ := shl15s (x := cl) (k := d) (by omega) (by omega) hd6
        obtain ⟨dy, hdy⟩ : ∃ z, cl * 2 ^ d = z := ⟨_, rfl⟩
        rw [hdy] at sh0 sh1 sh2 g3 g4
        obtain ⟨nx, hnx⟩ : ∃ z, now + dy = z := ⟨_, rfl⟩
        rw [hnx] at g3 g4
        obtain ⟨e1, he1⟩ : ∃ z, max ((j : Int) - 2) 0 = z := ⟨_, rfl⟩
        have he2 : min e1 6 = (d : Int) := by rw [← he1, ← hd]; unfold swS; omega
        have he1' : (if (j : Int) - 2 < 0 then 0 else (j : Int) - 2) = e1 := by rw [← he1]; split <;> omega
        have he2' : (if e1 < 6 then e1 else 6) = (d : Int) := by rw [← he2]; split <;> omega
        have hk0 : (0 : Int) ≤ (d : Int) := by omega
        have hk1 : (d : Int) ≤ 64 := by omega
        have hsn : ((d : Int)).toNat = d := by omega
        have x1 : ((d : Int) != (d : Int)) = false := by simp
        have x1' : (d != d) = false := by simp
        have x2 : (nx != nx) = false := by simp
        have y1 : IntKind.i64.wrap (now + dy) = nx := by rw [IntKind.wrap_i64]; omega
        have y2 : IntKind.i64.wrap nx = nx := by rw [IntKind.wrap_i64]; omega
        have y3 : IntKind.i64.wrap dy = dy := by rw [IntKind.wrap_i64]; omega
        have KDj := Lib.hid (fun (w : World) (hr : Rel w w) (hp : PaAt w (la, at_, L, sw) A q k) => KD.out la at_ sw L A q k tg now ⟨by omega, by omega⟩ ⟨by omega, by omega⟩ la2 at2 (d : Int) L2 true hdec g1 w hr hp)
        have KRj := Lib.hid (fun (A : Option Addr) (q k : Nat) (w : World) (hr : Rel w w) (hp : PaAt w (la2, at2, L2, (d : Int)) A q k) => KR.out la2 at2 (d : Int) nx L2 A q k g3 w hr hp)
        have HI2 := Lib.hid g4
        clear g1 g3 g4 hnp hdec hd hr hv htv
        obtain ⟨⟨x_0, x_1, x_2, x_3, x_4, x_5⟩, _⟩ := six_of HM.out.hc
        obtain ⟨⟨p_0, p_1, p_2, p_3⟩, _⟩ := four_of HM.out.hp
        go_upto_region 11 with (first
          | (go_at_call 5; (with_reducible refine (pk15_as z 600 k3 HK3 hz (by omega) (by omega) _).mono ?_); rintro e w' ⟨rfl, rfl⟩)
          | (go_at_call 6; (with_reducible refine (KDj.out wr HM.out.rel.self HM.out.pa).mono ?_); rintro e w4 ⟨A2, q2, k2', rfl, hPA, h4, hA2⟩))
        have AL := Lib.hid (h4.out.alloc (.cells #[.int .i64 la2, .int .i64 at2, .slice A2 q2 k2', .int .i64 (d : Int)] 28))
        have HM4 := Lib.hid (HM.out.to AL.out)
        have HQ := Lib.hid (Bk.new w4 28 #[.int .i64 la2, .int .i64 at2, .slice A2 q2 k2', .int .i64 (d : Int)])
        have PA4 := Lib.hid (hPA.out.rel (h4.out.right3s.alloc (.cells #[.int .i64 la2, .int .i64 at2, .slice A2 q2 k2', .int .i64 (d : Int)] 28)))
        have NE4 := Lib.hid (show ∀ a, A2 = some a → a.block ≠ gP from fun a ha => by
          rcases hA2.out with e | h
          · exact HM.out.ne a (by rw [← e]; exact ha)
          · have h0 := (h a ha).1
            have h1 := HM.out.hp.lt
            omega)
        obtain ⟨W4, hW4⟩ : ∃ W, w4.alloc (.cells #[.int .i64 la2, .int .i64 at2, .slice A2 q2 k2', .int .i64 (d : Int)] 28) = W := ⟨_, rfl⟩
        obtain ⟨gQ, hgQ⟩ : ∃ g, w4.heap.size = g := ⟨_, rfl⟩
        rw [hW4] at AL HM4 HQ PA4
        rw [hgQ] at HQ
        try rw [hW4]
        try rw [hgQ]
        clear hW4 hgQ hPA h4 hA2 x_0 x_1 x_2 x_3 x_4 x_5 p_0 p_1 p_2 p_3
        obtain ⟨⟨q_0, q_1, q_2, q_3⟩, _⟩ := four_of HQ.out
        obtain ⟨⟨p_0, p_1, p_2, p_3⟩, ⟨pf_0, pf_1, pf_2, pf_3⟩⟩ := four_of HM4.out.hp
        go_upto_region 14 with (fail)
        have HM5 := Lib.hid (HM4.out.store PA4.out NE4.out)
        obtain ⟨W5, hW5⟩ : ∃ W, (((W4.setCell ⟨gP, 0, none⟩ (.int .i64 la2)).setCell ⟨gP, 1, none⟩ (.int .i64 at2)).setCell ⟨gP, 2, none⟩ (.slice A2 q2 k2')).setCell ⟨gP, 3, none⟩ (.int .i64 (d : Int)) = W := ⟨_, rfl⟩
        rw [hW5] at HM5
        try rw [hW5]
        clear hW5 q_0 q_1 q_2 q_3 p_0 p_1 p_2 p_3 pf_0 pf_1 pf_2 pf_3
        obtain ⟨⟨x_0, x_1, x_2, x_3, x_4, x_5⟩, _⟩ := six_of HM5.out.hc
        obtain ⟨⟨p_0, p_1, p_2, p_3⟩, _⟩ := four_of HM5.out.hp
        go_wp2_with (go_at_call 7; (with_reducible refine (KRj.out A2 q2 k2' W5 HM5.out.rel.self HM5.out.pa).mono ?_); rintro e w6 ⟨rfl, h6⟩; have HM6 := Lib.hid (HM5.out.to h6.out); clear h6; clear x_0 x_1 x_2 x_3 x_4 x_5; obtain ⟨⟨x_0, x_1, x_2, x_3, x_4, x_5⟩, _⟩ := six_of HM6.out.hc)
        go_roundw
        case rel => exact ⟨j + 1, nx, la2, at2, (d : Int), L2, A2, q2, k2', by omega, by go_num, rfl, HI2, HM6⟩
        case measure => simp [RowKit.intOf]; omega
      · obtain rfl : j = n := by omega
        go_wp2_with (fail)
        go_meet
        exact ⟨now, la, at_, sw, L, A, q, k, rfl, HI.out, HM.out⟩
  obtain ⟨now, la, at_, sw, L, A, q, k, rfl, hI, hM⟩ := hcut
  have HI := Lib.hid hI
  have HM := Lib.hid hM
  clear hI hM
  by_cases h0 : n = 0
  · subst h0
    go_wp2_with (fail)
    go_ret
    exact ⟨rfl, HM.out.rel⟩
  · have z1 : ((n : Int) == 0) = false := by rw [Bool.eq_false_iff]; simp; omega
    have z2 : (n == 0) = false := by rw [Bool.eq_false_iff]; simp; omega
    obtain ⟨g1, g2, g3⟩ := sw_end c0 c1 s0 s1 (by omega) HI.out
    have n0 : 0 ≤ now := HI.out.now0
    have n1 : now ≤ 6400 * (n : Int) := HI.out.now1
    obtain ⟨⟨la2, at2, L2, sw2⟩, hnp⟩ : ∃ z, nextP (la, at_, L, sw) 199 now = z := ⟨_, rfl⟩
    rw [hnp] at g2 g3
    have hdec : decP (100, 900, 0, cl, 0, tA14) (la, at_, L, sw) 199 now = (la2, at2, L2, sw2) := by
      have e : decP (cfS cl) (la, at_, L, sw) 199 now = (la2, at2, L2, sw2) := by unfold decP; rw [if_pos g1, hnp]
      exact e
    obtain rfl : sw2 = 0 := g2
    obtain ⟨nx, hnx⟩ : ∃ z, now + cl = z := ⟨_, rfl⟩
    rw [hnx] at g3
    have KDj := Lib.hid (fun (w : World) (hr : Rel w w) (hp : PaAt w (la, at_, L, sw) A q k) => KD.out la at_ sw L A q k 199 now ⟨by omega, by omega⟩ ⟨by omega, by omega⟩ la2 at2 0 L2 true hdec g1 w hr hp)
    have KRj := Lib.hid (fun (A : Option Addr) (q k : Nat) (w : World) (hr : Rel w w) (hp : PaAt w (la2, at2, L2, 0) A q k) => KR.out la2 at2 0 nx L2 A q k g3 w hr hp)
    have y1 : IntKind.i64.wrap (now + cl) = nx := by rw [IntKind.wrap_i64]; omega
    have y2 : IntKind.i64.wrap nx = nx := by rw [IntKind.wrap_i64]; omega
    have y3 : (nx == nx) = true := by simp
    clear g1 g3 hnp hdec h0
    obtain ⟨⟨x_0, x_1, x_2, x_3, x_4, x_5⟩, _⟩ := six_of HM.out.hc
    obtain ⟨⟨p_0, p_1, p_2, p_3⟩, _⟩ := four_of HM.out.hp
    go_upto_region 21 with (go_at_call 6; (with_reducible refine (KDj.out _ HM.out.rel.self HM.out.pa).mono ?_); rintro e w4 ⟨A2, q2, k2', rfl, hPA, h4, _⟩)
    have HM4 := Lib.hid (HM.out.to (h4.out.alloc (.cells #[.int .i64 la2, .int .i64 at2, .slice A2 q2 k2', .int .i64 0] 28)))
    have HQ := Lib.hid (Bk.new w4 28 #[.int .i64 la2, .int .i64 at2, .slice A2 q2 k2', .int .i64 0])
    have PA4 := Lib.hid (hPA.out.rel (h4.out.right3s.alloc (.cells #[.int .i64 la2, .int .i64 at2, .slice A2 q2 k2', .int .i64 0] 28)))
    obtain ⟨V, hV⟩ : ∃ W, w4.alloc (.cells #[.int .i64 la2, .int .i64 at2, .slice A2 q2 k2', .int .i64 0] 28) = W := ⟨_, rfl⟩
    obtain ⟨gQ, hgQ⟩ : ∃ g, w4.heap.size = g := ⟨_, rfl⟩
    rw [hV] at HM4 HQ PA4
    rw [hgQ] at HQ
    try rw [hV]
    try rw [hgQ]
    clear hV hgQ hPA h4 x_0 x_1 x_2 x_3 x_4 x_5 p_0 p_1 p_2 p_3 HM
    refine wp_region_held_drew (S := (fun w' => Rel V w')) (by kernel_rfl) HM4.out.rel.self.drew (fun hHeld => ?_)
    refine held_take (i := 0) (v := ?_) (some 83) rfl rfl (by kernel_rfl) (by kernel_rfl) (by kernel_rfl) (fun _ _ _ h => h) (Or.inl ⟨by rfl, ?_⟩) hHeld ?_
    rotate_left 1
    · rintro w' hr'; obtain ⟨x0, x1, x2, x3, x4, x5⟩ := (six_of (HM4.out.hc.rel hr')).1; obtain ⟨q0, q1, q2, q3⟩ := (four_of (HQ.out.rel hr')).1; go_simp; try with_reducible rfl
    try simp only [Act.put, List.setIfInBounds_toArray, List.set_cons_zero, List.set_cons_succ]
    refine held_take (i := 1) (v := ?_) (some 84) rfl rfl (by kernel_rfl) (by kernel_rfl) (by kernel_rfl) (fun _ _ _ h => h) (Or.inl ⟨by rfl, ?_⟩) hHeld ?_
    rotate_left 1
    · rintro w' hr'; obtain ⟨x0, x1, x2, x3, x4, x5⟩ := (six_of (HM4.out.hc.rel hr')).1; obtain ⟨q0, q1, q2, q3⟩ := (four_of (HQ.out.rel hr')).1; go_simp; try with_reducible rfl
    try simp only [Act.put, List.setIfInBounds_toArray, List.set_cons_zero, List.set_cons_succ]
    refine held_take (i := 2) (v := ?_) (some 85) rfl rfl (by kernel_rfl) (by kernel_rfl) (by kernel_rfl) (fun _ _ _ h => h) (Or.inl ⟨by rfl, ?_⟩) hHeld ?_
    rotate_left 1
    · rintro w' hr'; obtain ⟨x0, x1, x2, x3, x4, x5⟩ := (six_of (HM4.out.hc.rel hr')).1; obtain ⟨q0, q1, q2, q3⟩ := (four_of (HQ.out.rel hr')).1; go_simp; try with_reducible rfl
    try simp only [Act.put, List.setIfInBounds_toArray, List.set_cons_zero, List.set_cons_succ]
    refine held_take (i := 3) (v := ?_) (some 86) rfl rfl (by kernel_rfl) (by kernel_rfl) (by kernel_rfl) (fun _ _ _ h => h) (Or.inl ⟨by rfl, ?_⟩) hHeld ?_
    rotate_left 1
    · rintro w' hr'; obtain ⟨x0, x1, x2, x3, x4, x5⟩ := (six_of (HM4.out.hc.rel hr')).1; obtain ⟨q0, q1, q2, q3⟩ := (four_of (HQ.out.rel hr')).1; go_simp; try with_reducible rfl
    try simp only [Act.put, List.setIfInBounds_toArray, List.set_cons_zero, List.set_cons_succ]
    refine held_take (i := 4) (v := ?_) (some 87) rfl rfl (by kernel_rfl) (by kernel_rfl) (by kernel_rfl) (fun _ _ _ h => h) (Or.inl ⟨by rfl, ?_⟩) hHeld ?_
    rotate_left 1
    · rintro w' hr'; obtain ⟨x0, x1, x2, x3, x4, x5⟩ := (six_of (HM4.out.hc.rel hr')).1; obtain ⟨q0, q1, q2, q3⟩ := (four_of (HQ.out.rel hr')).1; go_simp; try with_reducible rfl
    try simp only [Act.put, List.setIfInBounds_toArray, List.set_cons_zero, List.set_cons_succ]
    refine held_take (i := 5) (v := ?_) (some 88) rfl rfl (by kernel_rfl) (by kernel_rfl) (by kernel_rfl) (fun _ _ _ h => h) (Or.inl ⟨by rfl, ?_⟩) hHeld ?_
    rotate_left 1
    · rintro w' hr'; obtain ⟨x0, x1, x2, x3, x4, x5⟩ := (six_of (HM4.out.hc.rel hr')).1; obtain ⟨q0, q1, q2, q3⟩ := (four_of (HQ.out.rel hr')).1; go_simp; try with_reducible rfl
    try simp only [Act.put, List.setIfInBounds_toArray, List.set_cons_zero, List.set_cons_succ]
    refine held_take (i := 6) (v := ?_) (some 89) rfl rfl (by kernel_rfl) (by kernel_rfl) (by kernel_rfl) (fun _ _ _ h => h) (Or.inl ⟨by rfl, ?_⟩) hHeld ?_
    rotate_left 1
    · rintro w' hr'; obtain ⟨x0, x1, x2, x3, x4, x5⟩ := (six_of (HM4.out.hc.rel hr')).1; obtain ⟨q0, q1, q2, q3⟩ := (four_of (HQ.out.rel hr')).1; go_simp; try with_reducible rfl
    try simp only [Act.put, List.setIfInBounds_toArray, List.set_cons_zero, List.set_cons_succ]
    refine held_take (i := 7) (v := ?_) (some 90) rfl rfl (by kernel_rfl) (by kernel_rfl) (by kernel_rfl) (fun _ _ _ h => h) (Or.inl ⟨by rfl, ?_⟩) hHeld ?_
    rotate_left 1
    · rintro w' hr'; obtain ⟨x0, x1, x2, x3, x4, x5⟩ := (six_of (HM4.out.hc.rel hr')).1; obtain ⟨q0, q1, q2, q3⟩ := (four_of (HQ.out.rel hr')).1; go_simp; try with_reducible rfl
    try simp only [Act.put, List.setIfInBounds_toArray, List.set_cons_zero, List.set_cons_succ]
    refine held_take (i := 8) (v := ?_) (some 91) rfl rfl (by kernel_rfl) (by kernel_rfl) (by kernel_rfl) (fun _ _ _ h => h) (Or.inl ⟨by rfl, ?_⟩) hHeld ?_
    rotate_left 1
    · rintro w' hr'; obtain ⟨x0, x1, x2, x3, x4, x5⟩ := (six_of (HM4.out.hc.rel hr')).1; obtain ⟨q0, q1, q2, q3⟩ := (four_of (HQ.out.rel hr')).1; go_simp; try with_reducible rfl
    try simp only [Act.put, List.setIfInBounds_toArray, List.set_cons_zero, List.set_cons_succ]
    refine held_take (i := 9) (v := ?_) (some 92) rfl rfl (by kernel_rfl) (by kernel_rfl) (by kernel_rfl) (fun _ _ _ h => h) (Or.inl ⟨by rfl, ?_⟩) hHeld ?_
    rotate_left 1
    · rintro w' hr'; obtain ⟨x0, x1, x2, x3, x4, x5⟩ := (six_of (HM4.out.hc.rel hr')).1; obtain ⟨q0, q1, q2, q3⟩ := (four_of (HQ.out.rel hr')).1; go_simp; try with_reducible rfl
    try simp only [Act.put, List.setIfInBounds_toArray, List.set_cons_zero, List.set_cons_succ]
    refine held_take (i := 10) (v := ?_) (some 93) rfl rfl (by kernel_rfl) (by kernel_rfl) (by kernel_rfl) (fun _ _ _ h => h) (Or.inl ⟨by rfl, ?_⟩) hHeld ?_
    rotate_left 1
    · rintro w' hr'; obtain ⟨x0, x1, x2, x3, x4, x5⟩ := (six_of (HM4.out.hc.rel hr')).1; obtain ⟨q0, q1, q2, q3⟩ := (four_of (HQ.out.rel hr')).1; go_simp; try with_reducible rfl
    try simp only [Act.put, List.setIfInBounds_toArray, List.set_cons_zero, List.set_cons_succ]
    refine held_take (i := 11) (v := ?_) (some 94) rfl rfl (by kernel_rfl) (by kernel_rfl) (by kernel_rfl) (fun _ _ _ h => h) (Or.inl ⟨by rfl, ?_⟩) hHeld ?_
    rotate_left 1
    · rintro w' hr'; obtain ⟨x0, x1, x2, x3, x4, x5⟩ := (six_of (HM4.out.hc.rel hr')).1; obtain ⟨q0, q1, q2, q3⟩ := (four_of (HQ.out.rel hr')).1; go_simp; try with_reducible rfl
    try simp only [Act.put, List.setIfInBounds_toArray, List.set_cons_zero, List.set_cons_succ]
    refine held_take (i := 13) (v := ?_) (some 96) rfl rfl (by kernel_rfl) (by kernel_rfl) (by kernel_rfl) (fun _ _ _ h => h) (Or.inl ⟨by rfl, ?_⟩) hHeld ?_
    rotate_left 1
    · rintro w' hr'; obtain ⟨x0, x1, x2, x3, x4, x5⟩ := (six_of (HM4.out.hc.rel hr')).1; obtain ⟨q0, q1, q2, q3⟩ := (four_of (HQ.out.rel hr')).1; go_simp; try with_reducible rfl
    try simp only [Act.put, List.setIfInBounds_toArray, List.set_cons_zero, List.set_cons_succ]
    refine held_take (i := 14) (v := ?_) (some 97) rfl rfl (by kernel_rfl) (by kernel_rfl) (by kernel_rfl) (fun _ _ _ h => h) (Or.inl ⟨by rfl, ?_⟩) hHeld ?_
    rotate_left 1
    · rintro w' hr'; obtain ⟨x0, x1, x2, x3, x4, x5⟩ := (six_of (HM4.out.hc.rel hr')).1; obtain ⟨q0, q1, q2, q3⟩ := (four_of (HQ.out.rel hr')).1; go_simp; try with_reducible rfl
    try simp only [Act.put, List.setIfInBounds_toArray, List.set_cons_zero, List.set_cons_succ]
    refine held_take (i := 15) (v := ?_) (some 98) rfl rfl (by kernel_rfl) (by kernel_rfl) (by kernel_rfl) (fun _ _ _ h => h) (Or.inl ⟨by rfl, ?_⟩) hHeld ?_
    rotate_left 1
    · rintro w' hr'; obtain ⟨x0, x1, x2, x3, x4, x5⟩ := (six_of (HM4.out.hc.rel hr')).1; obtain ⟨q0, q1, q2, q3⟩ := (four_of (HQ.out.rel hr')).1; go_simp; try with_reducible rfl
    try simp only [Act.put, List.setIfInBounds_toArray, List.set_cons_zero, List.set_cons_succ]
    refine held_take (i := 16) (v := ?_) (some 99) rfl rfl (by kernel_rfl) (by kernel_rfl) (by kernel_rfl) (fun _ _ _ h => h) (Or.inl ⟨by rfl, ?_⟩) hHeld ?_
    rotate_left 1
    · rintro w' hr'; obtain ⟨x0, x1, x2, x3, x4, x5⟩ := (six_of (HM4.out.hc.rel hr')).1; obtain ⟨q0, q1, q2, q3⟩ := (four_of (HQ.out.rel hr')).1; go_simp; try with_reducible rfl
    try simp only [Act.put, List.setIfInBounds_toArray, List.set_cons_zero, List.set_cons_succ]
    refine held_one (j := 12) (by kernel_rfl) rfl (fun K hK => ?_)
    try simp only [List.getElem_toArray, List.getElem_cons_succ, List.getElem_cons_zero]
    rw [if_pos (by rfl)]
    go_simp
    have HH := Lib.hid hHeld
    go_at_call 7; (with_reducible refine (KRj.out A2 q2 k2' _ HH.out.self (PA4.out.rel HH.out)).mono ?_); rintro e w7 ⟨rfl, r7⟩
    refine hK.out _ _ (HH.out.trans r7.out) (fun hHeld => ?_)
    clear hK K
    try simp only [Act.put, List.setIfInBounds_toArray, List.set_cons_zero, List.set_cons_succ]
    refine held_take (i := 17) (v := ?_) (some 100) rfl rfl (by kernel_rfl) (by kernel_rfl) (by kernel_rfl) (fun _ _ _ h => h) (Or.inl ⟨by rfl, ?_⟩) hHeld ?_
    rotate_left 1
    · rintro w' hr'; obtain ⟨x0, x1, x2, x3, x4, x5⟩ := (six_of (HM4.out.hc.rel hr')).1; obtain ⟨q0, q1, q2, q3⟩ := (four_of (HQ.out.rel hr')).1; go_simp; try with_reducible rfl
    try simp only [Act.put, List.setIfInBounds_toArray, List.set_cons_zero, List.set_cons_succ]
    refine held_take (i := 18) (v := ?_) (some 101) rfl rfl (by kernel_rfl) (by kernel_rfl) (by kernel_rfl) (fun _ _ _ h => h) (Or.inl ⟨by rfl, ?_⟩) hHeld ?_
    rotate_left 1
    · rintro w' hr'; obtain ⟨x0, x1, x2, x3, x4, x5⟩ := (six_of (HM4.out.hc.rel hr')).1; obtain ⟨q0, q1, q2, q3⟩ := (four_of (HQ.out.rel hr')).1; go_simp; try with_reducible rfl
    try simp only [Act.put, List.setIfInBounds_toArray, List.set_cons_zero, List.set_cons_succ]
    refine held_take (i := 19) (v := ?_) (some 6) rfl rfl (by kernel_rfl) (by kernel_rfl) (by kernel_rfl) (fun _ _ _ h => h) (Or.inl ⟨by rfl, ?_⟩) hHeld ?_
    rotate_left 1
    · rintro w' hr'; obtain ⟨x0, x1, x2, x3, x4, x5⟩ := (six_of (HM4.out.hc.rel hr')).1; obtain ⟨q0, q1, q2, q3⟩ := (four_of (HQ.out.rel hr')).1; go_simp; try with_reducible rfl
    try simp only [Act.put, List.setIfInBounds_toArray, List.set_cons_zero, List.set_cons_succ]
    refine wpAnyH_done (by kernel_rfl) ?_ _
    go_wp2_with (fail)
    go_ret
    exact ⟨rfl, HM4.out.rel.trans hHeld⟩
end Go.Proofs.YtjhjdiaomnpkmaaDoor
