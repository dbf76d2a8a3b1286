/- The program's reader: what next and tell do. -/
import Derived.Test.YtjbbfcomgglhiaaDoorSpellWalk
import Derived.Test.YtjbbfcomgglhiaaDoorEncLeaf
import Derived.Test.YtjbbfcomgglhiaaDoorFrameLawA
namespace Go.Proofs.YtjbbfcomgglhiaaDoor
open Go.RowKit
open Go.Lib hiding intOf
set_option linter.unusedVariables false
set_option linter.unusedSimpArgs false

theorem ext_end (s : ByteArray) (p : Nat) (h : p ≤ s.size) : s.extract p s.size = B (s.data.toList.drop p) := by
  rw [← B_of (s.extract p s.size), tok_list]
  congr 1
  rw [List.take_of_length_le]
  rw [List.length_drop]
  have : s.data.toList.length = s.size := by simp
  omega
theorem ext_head (l : List UInt8) (n : Nat) : (B l).extract 0 n = B (l.take n) := by
  rw [← B_of ((B l).extract 0 n), tok_list, B_list]
  simp
set_option maxHeartbeats 1000000 in
theorem next_any (b p : Nat) (s : ByteArray) (V : Value) (hs : s.size ≤ 2000000) (hp : p ≤ s.size) (w : World) (hb : Hid (Bk w b 53 #[V, .int .i64 p, .string s])) (hr : Rel w w) (t : ByteArray) (ok : Bool)
    (hok : Hid (((s.data.toList.drop p).length < frLn (s.data.toList.drop p) + 4 ∧ t = ⟨#[]⟩ ∧ ok = false) ∨ (¬ (s.data.toList.drop p).length < frLn (s.data.toList.drop p) + 4 ∧ t = B ((s.data.toList.drop p).take (frLn (s.data.toList.drop p) + 4)) ∧ ok = true))) :
    Calls Tryd.prog 34 #[.pointer (some ⟨b, 0, none⟩)] w fun e w' => e = .returned (.tuple #[.string t, .bool ok]) ∧ Rel w w' := by
  obtain ⟨⟨c0, c1, c2⟩, _⟩ := hb.out.three
  have E0 := ext_end s p hp
  have hk := hok.out
  obtain ⟨L, hL⟩ : ∃ L, s.data.toList.drop p = L := ⟨_, rfl⟩
  have hll : L.length = s.size - p := by rw [← hL, List.length_drop]; simp
  rw [hL] at E0 hk
  have hz : (B L).size = L.length := B_size L
  obtain ⟨m, hm⟩ : ∃ m, L.length = m := ⟨_, rfl⟩
  rw [hm] at hk hz hll
  have HM := Lib.hid hm
  have HR := Lib.hid hr
  have hm2 : m ≤ 2000000 := by omega
  have HK := Lib.hid hk
  clear hL hr hll hk hok
  by_cases h2 : m < 2
  · clear hm
    have hsh : t = ⟨#[]⟩ ∧ ok = false := by
      rcases HK.out with h | ⟨h, _⟩
      · exact h.2
      · have : ¬ m < 0 + 4 := fun h9 => h (by omega)
        omega
    obtain ⟨rfl, rfl⟩ := hsh
    go_enter Tryd.func34, Tryd.ntmps34
    go_wp2_with (fail)
    go_quiet (fail)
    go_wp2_with (fail)
    go_ret2
    exact ⟨rfl, HR.out.drewN _⟩
  · have h1 : 0 + 1 < (B L).size := by omega
    have hln := ln_at (B L) 0 h1
    rw [B_list, List.drop_zero] at hln
    obtain ⟨n, hn⟩ : ∃ n, frLn L = n := ⟨_, rfl⟩
    have hnb := ln_bd L
    have hk := HK.out
    rw [hn] at hln hnb hk
    obtain ⟨x, hx⟩ : ∃ x, x = (B L)[0]'(by omega) := ⟨_, rfl⟩
    obtain ⟨y, hy⟩ : ∃ x, x = (B L)[0 + 1]'h1 := ⟨_, rfl⟩
    rw [← hx, ← hy] at hln
    have hgx : ∀ h, (B L)[0]'h = x := fun h => hx.symm
    have hgy : ∀ h, (B L)[1]'h = y := fun h => hy.symm
    have b1 := u8_lt x
    have b2 := u8_lt y
    have HN := Lib.hid hn
    clear hx hy h1 hm hn
    rcases hk with ⟨h, rfl, rfl⟩ | ⟨h, ht, rfl⟩
    · go_enter Tryd.func34, Tryd.ntmps34
      go_wp2_with (fail)
      go_quiet (fail)
      go_wp2_with (fail)
      obtain ⟨w0x, w1x⟩ := And.intro (show IntKind.i64.wrap (x.toNat : Int) = (x.toNat : Int) by rw [IntKind.wrap_i64]; omega) (show IntKind.i64.wrap (y.toNat : Int) = (y.toNat : Int) by rw [IntKind.wrap_i64]; omega)
      go_quiet (fail)
      go_wp2_with (fail)
      go_ret2
      exact ⟨rfl, HR.out.drewN _⟩
    · have HT := Lib.hid (show B (L.take (n + 4)) = t from ht.symm)
      clear ht
      go_enter Tryd.func34, Tryd.ntmps34
      go_wp2_with (fail)
      go_quiet (fail)
      go_wp2_with (fail)
      obtain ⟨w0x, w1x⟩ := And.intro (show IntKind.i64.wrap (x.toNat : Int) = (x.toNat : Int) by rw [IntKind.wrap_i64]; omega) (show IntKind.i64.wrap (y.toNat : Int) = (y.toNat : Int) by rw [IntKind.wrap_i64]; omega)
      go_quiet (fail)
      go_wp2_with (fail)
      go_ret2
      have e4 : 2 + x.toNat * 256 + y.toNat + 2 = n + 4 := by omega
      refine ⟨?_, HR.out.drewN _⟩
      show Ending.returned (.tuple #[.string ((B L).extract 0 (2 + x.toNat * 256 + y.toNat + 2)), .bool true]) = _
      rw [e4, ext_head, HT.out]
end Go.Proofs.YtjbbfcomgglhiaaDoor
