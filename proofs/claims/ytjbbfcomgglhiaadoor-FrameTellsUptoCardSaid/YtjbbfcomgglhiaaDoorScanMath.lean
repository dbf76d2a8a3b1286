/- When what stands at the head of a text is a frame: plain mathematics. -/
import Derived.Test.YtjbbfcomgglhiaaDoorRecParse
namespace Go.Proofs.YtjbbfcomgglhiaaDoor
open Go.Lib
set_option linter.unusedVariables false
set_option linter.unusedSimpArgs false

theorem tw_ln {a b : UInt8} {t : List UInt8} : tw (frLn (a :: b :: t)) = [a, b] := by
  have h1 := u8_lt a
  have h2 := u8_lt b
  show [UInt8.ofNat ((a.toNat * 256 + b.toNat) / 256), UInt8.ofNat ((a.toNat * 256 + b.toNat) % 256)] = [a, b]
  rw [show (a.toNat * 256 + b.toNat) / 256 = a.toNat by omega, show (a.toNat * 256 + b.toNat) % 256 = b.toNat by omega]
  simp
theorem ln_bd (l : List UInt8) : frLn l < 65536 := by
  match l with
  | [] => show 0 < _; omega
  | [a] => show 0 < _; omega
  | a :: b :: t =>
    have h1 := u8_lt a
    have h2 := u8_lt b
    show a.toNat * 256 + b.toNat < _
    omega
theorem ln_two {l : List UInt8} (h : 2 ≤ l.length) : tw (frLn l) = l.take 2 := by
  match l, h with
  | a :: b :: t, _ => rw [tw_ln]; rfl
theorem frame_parts (l : List UInt8) (n : Nat) : l.take (n + 4) = l.take (2 + n) ++ (l.drop (2 + n)).take 2 := by
  rw [show n + 4 = (2 + n) + 2 by omega, List.take_add]
theorem head_parts (l : List UInt8) (n : Nat) : l.take (2 + n) = l.take 2 ++ (l.drop 2).take n := List.take_add ..
/-- The head is that of a record whose body stands there. -/
theorem head_of {l : List UInt8} (h : ¬ l.length < frLn l + 4) {r : Int × List Int × List UInt8} (hb : frBody r = (l.drop 2).take (frLn l)) : frHead r = l.take (2 + frLn l) := by
  have hl : (frBody r).length = frLn l := by rw [hb, List.length_take, List.length_drop]; omega
  unfold frHead
  rw [hl, hb, ln_two (by omega), ← head_parts]
theorem good_yes {l : List UInt8} (h : ¬ l.length < frLn l + 4) {r : Int × List Int × List UInt8} (hr : frRight r) (hb : frBody r = (l.drop 2).take (frLn l)) (hs : (l.drop (2 + frLn l)).take 2 = tw (crc (l.take (2 + frLn l)) 65535)) :
    frGood (l.take (frLn l + 4)) = some r := by
  have e : frEnc r = l.take (frLn l + 4) := by
    unfold frEnc
    rw [head_of h hb, ← hs, ← frame_parts]
  rw [← e]
  exact frGood_enc hr
theorem body_of {l : List UInt8} (h : ¬ l.length < frLn l + 4) {r : Int × List Int × List UInt8} (hr : frRight r) (e : frEnc r = l.take (frLn l + 4)) :
    frBody r = (l.drop 2).take (frLn l) ∧ (l.drop (2 + frLn l)).take 2 = tw (crc (l.take (2 + frLn l)) 65535) := by
  have hlen := frEnc_len r
  rw [e, List.length_take] at hlen
  have hn : (frBody r).length = frLn l := by omega
  have e1 : frHead r ++ tw (crc (frHead r) 65535) = l.take (2 + frLn l) ++ (l.drop (2 + frLn l)).take 2 := by rw [← frame_parts]; exact e
  have l1 : (frHead r).length = (l.take (2 + frLn l)).length := by rw [frHead_len, List.length_take]; omega
  obtain ⟨h1, h2⟩ := List.append_inj e1 l1
  have e2 : tw (frBody r).length ++ frBody r = l.take 2 ++ (l.drop 2).take (frLn l) := by rw [← head_parts]; exact h1
  obtain ⟨_, h4⟩ := List.append_inj e2 (by rw [tw_len, List.length_take]; omega)
  exact ⟨h4, by rw [← h2, h1]⟩
theorem good_no {l : List UInt8} (h : ¬ l.length < frLn l + 4) (hx : NoBody ((l.drop 2).take (frLn l)) ∨ (l.drop (2 + frLn l)).take 2 ≠ tw (crc (l.take (2 + frLn l)) 65535)) : frGood (l.take (frLn l + 4)) = none := by
  refine frGood_none fun r hr e => ?_
  obtain ⟨h1, h2⟩ := body_of h hr e
  rcases hx with hx | hx
  · exact hx r hr h1
  · exact hx h2
theorem short_two {l : List UInt8} (h : l.length < 2) : frScan l = ([], 0, true) := by
  refine frScan_short ?_
  omega
end Go.Proofs.YtjbbfcomgglhiaaDoor
