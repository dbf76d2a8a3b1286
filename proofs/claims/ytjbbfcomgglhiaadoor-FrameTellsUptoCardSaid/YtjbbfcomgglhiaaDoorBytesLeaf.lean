/- A text as a slice of bytes that may be written, and back. -/
import Derived.Test.YtjbbfcomgglhiaaDoorFrameLawC
import Derived.Lib.ConvBytes
import Derived.Laws.IdiomStrings
namespace Go.Proofs.YtjbbfcomgglhiaaDoor
open Go.RowKit Go.Lib
set_option linter.unusedVariables false
set_option linter.unusedSimpArgs false

def bo (k : Int) : UInt8 := UInt8.ofNat k.toNat
theorem bo_nat {k : Int} (h0 : 0 ≤ k) (h1 : k < 256) : ((bo k).toNat : Int) = k := by
  unfold bo
  rw [UInt8.toNat_ofNat', Nat.mod_eq_of_lt (by omega)]
  omega
theorem xor_same (c x : UInt8) : c ^^^ x = c ↔ x.toNat = 0 := by
  constructor
  · intro h
    have e := congrArg UInt8.toNat h
    rw [UInt8.toNat_xor] at e
    exact xinj (a := c.toNat) (by rw [e, Nat.xor_zero])
  · intro h
    refine u8_inj ?_
    rw [UInt8.toNat_xor, h, Nat.xor_zero]
theorem xor_bo (p : UInt8) (x : Int) (h0 : 0 ≤ x) (h1 : x < 256) : bits .xor .u8 (p.toNat : Int) x = ((p ^^^ bo x).toNat : Int) := by
  have e := bo_nat h0 h1
  have h := u8_xor_nat p.toNat (bo x).toNat (u8_lt p) (u8_lt _)
  rw [e] at h
  rw [h, UInt8.toNat_xor]
/-- A slice's cells are these bytes, and may be written. -/
def Buf (w : World) (h : Nat) (l : List UInt8) : Prop := ∀ j (hj : j < l.length), w.cell? ⟨h, j, none⟩ = some (.int .u8 (l[j].toNat : Int)) ∧ w.frozen? ⟨h, j, none⟩ = false
theorem Buf.set {w : World} {h : Nat} {l : List UInt8} (b : Buf w h l) {k : Nat} (hk : k < l.length) (c : UInt8) : Buf (w.setCell ⟨h, k, none⟩ (.int .u8 (c.toNat : Int))) h (l.set k c) := by
  intro j hj
  rw [List.length_set] at hj
  obtain ⟨h1, h2⟩ := b j hj
  refine ⟨?_, by rw [World.frozen?_setCell]; exact h2⟩
  by_cases e : k = j
  · subst e
    rw [w.cell?_setCell_same _ _ h1, List.getElem_set_self]
  · rw [w.cell?_setCell_other _ _ _ (by intro h; exact e (by injection h)), h1, List.getElem_set_ne e]
theorem Buf.made (w : World) (s : ByteArray) (e : TypeId) : Buf (bytesWorld w e s) w.heap.size s.data.toList := by
  intro j hj
  have hs : j < s.size := by simpa using hj
  refine ⟨?_, ?_⟩
  · rw [bytesWorld_cell w e s j hs, List.getD, List.getElem?_eq_getElem hj]; rfl
  · have hz : s.size ≤ (bytesCells w e s).size := by simp [bytesCells]
    unfold World.frozen?
    rw [bytesWorld_at_new]
    simp
    omega
theorem Rel.bytes {w0 w : World} (h : Rel w0 w) (e : TypeId) (s : ByteArray) : Rel w0 (bytesWorld w e s) := by
  refine h.step ⟨rfl, rfl, rfl, ?_, fun k hk => bytesWorld_at_old w e s k hk⟩
  rw [bytesWorld_size]; omega
theorem Buf.back {w : World} {h : Nat} {l : List UInt8} (b : Buf w h l) (cap : Nat) :
    (convert 43 9 (.slice (some ⟨h, 0, none⟩) l.length cap)).run Tryd.prog w = .ok (.string (B l)) w :=
  run_convert_bytes_back (P := Tryd.prog) w 43 9 5 ⟨h, 0, none⟩ cap l Tryd.underlying43 Tryd.underlying5 Tryd.underlying9 (fun j hj => by
    have := (b j hj).1
    rw [show (⟨h, 0, none⟩ : Addr).add j = ⟨h, j, none⟩ by unfold Addr.add; split <;> simp_all]
    exact this)
end Go.Proofs.YtjbbfcomgglhiaaDoor
