/- Contracts of HashOf and PlaceOf, of the program and of its model. -/
import Derived.Test.YtffdkfhnlgfigaaKeys
namespace Go.Proofs.Ytffdkfhnlgfigaa
open Go.RowKit

theorem seedB_out {seed part : Int} (h : seedB seed part = true) : 0 ≤ seed ∧ seed ≤ 9999 ∧ 0 ≤ part ∧ part ≤ 9 := by simpa [seedB] using h

def hashR (seed part : Int) (l : List UInt8) : Int × Bool := if seedB seed part = true ∧ isKeyB l = true then (hashI seed part l, true) else (0, false)
def placeR (seed part : Int) (l : List UInt8) (n : Int) : Int × Bool := if seedB seed part = true ∧ isKeyB l = true ∧ 1 ≤ n ∧ n ≤ 4096 then (placeI seed part l n, true) else (0, false)

set_option maxHeartbeats 400000 in
theorem impl_placeKey (seed part n : Int) (s : ByteArray) (w : World) (hs : s.size ≤ maxLen) (hsd : seedB seed part = true) (n0 : 0 ≤ n) (n1 : n ≤ 4096) :
    Calls Try.prog 132 #[.int .i64 seed, .int .i64 part, .string s, .int .i64 n] w fun e w' => e = .returned (.int .i64 (placeI seed part s.data.toList n)) ∧ w = w' := by
  obtain ⟨a1, a2, b1, b2⟩ := seedB_out hsd
  obtain ⟨m0, m1⟩ := hash_mul_bd seed part s.data.toList n n0 n1
  clear hsd
  go_enter Try.func132, Try.ntmps132
  go_wp2_with (go_at_call 135; refine (impl_hashKey _ _ _ _ hs a1 a2 b1 b2).mono ?_; rintro e w' ⟨rfl, rfl⟩)
  go_ret
  exact ⟨rfl, rfl⟩

set_option maxHeartbeats 400000 in
theorem spec_biPlace (seed part n : Int) (s : ByteArray) (w : World) (hs : s.size ≤ maxLen) (hsd : seedB seed part = true) (n0 : 0 ≤ n) (n1 : n ≤ 4096) :
    Calls Try.prog 129 #[.int .i64 seed, .int .i64 part, .string s, .int .i64 n] w fun e w' => e = .returned (.int .i64 (placeI seed part s.data.toList n)) ∧ w = w' := by
  obtain ⟨a1, a2, b1, b2⟩ := seedB_out hsd
  obtain ⟨m0, m1⟩ := hash_mul_bd seed part s.data.toList n n0 n1
  clear hsd
  go_enter Try.func129, Try.ntmps129
  go_wp2_with (go_at_call 134; refine (spec_biHash _ _ _ _ hs a1 a2 b1 b2).mono ?_; rintro e w' ⟨rfl, rfl⟩)
  go_ret
  exact ⟨rfl, rfl⟩

end Go.Proofs.Ytffdkfhnlgfigaa
