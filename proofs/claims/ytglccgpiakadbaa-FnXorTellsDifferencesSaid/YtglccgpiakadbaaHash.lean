/- Contracts of HashOf and PlaceOf, of the program and of its model. -/
import Derived.Test.YtglccgpiakadbaaKeys
namespace Go.Proofs.Ytglccgpiakadbaa
open Go.RowKit

theorem seedB_out {seed part : Int} (h : seedB seed part = true) : 0 ≤ seed ∧ seed ≤ 9999 ∧ 0 ≤ part ∧ part ≤ 9 := by simpa [seedB] using h

def hashR (seed part : Int) (l : List UInt8) : Int × Bool := if seedB seed part = true ∧ isKeyB l = true then (hashI seed part l, true) else (0, false)
def placeR (seed part : Int) (l : List UInt8) (n : Int) : Int × Bool := if seedB seed part = true ∧ isKeyB l = true ∧ 1 ≤ n ∧ n ≤ 4096 then (placeI seed part l n, true) else (0, false)

set_option maxHeartbeats 400000 in
theorem impl_placeKey (seed part n : Int) (s : ByteArray) (w : World) (hs : s.size ≤ maxLen) (hsd : seedB seed part = true) (n0 : 0 ≤ n) (n1 : n ≤ 4096) :
    Calls Try.prog 114 #[.int .i64 seed, .int .i64 part, .string s, .int .i64 n] w fun e w' => e = .returned (.int .i64 (placeI seed part s.data.toList n)) ∧ w = w' := by
  obtain ⟨a1, a2, b1, b2⟩ := seedB_out hsd
  obtain ⟨m0, m1⟩ := hash_mul_bd seed part s.data.toList n n0 n1
  clear hsd
  go_enter Try.func114, Try.ntmps114
  go_wp2_with (go_at_call 117; refine (impl_hashKey _ _ _ _ hs a1 a2 b1 b2).mono ?_; rintro e w' ⟨rfl, rfl⟩)
  go_ret
  exact ⟨rfl, rfl⟩

set_option maxHeartbeats 400000 in
theorem spec_biPlace (seed part n : Int) (s : ByteArray) (w : World) (hs : s.size ≤ maxLen) (hsd : seedB seed part = true) (n0 : 0 ≤ n) (n1 : n ≤ 4096) :
    Calls Try.prog 116 #[.int .i64 seed, .int .i64 part, .string s, .int .i64 n] w fun e w' => e = .returned (.int .i64 (placeI seed part s.data.toList n)) ∧ w = w' := by
  obtain ⟨a1, a2, b1, b2⟩ := seedB_out hsd
  obtain ⟨m0, m1⟩ := hash_mul_bd seed part s.data.toList n n0 n1
  clear hsd
  go_enter Try.func116, Try.ntmps116
  go_wp2_with (go_at_call 118; refine (spec_biHash _ _ _ _ hs a1 a2 b1 b2).mono ?_; rintro e w' ⟨rfl, rfl⟩)
  go_ret
  exact ⟨rfl, rfl⟩

set_option maxHeartbeats 400000 in
theorem impl_hashOf (seed part : Int) (s : ByteArray) (w : World) (hs : s.size ≤ maxLen) :
    Calls Try.prog 53 #[.int .i64 seed, .int .i64 part, .string s] w fun e w' => e = .returned (.tuple #[.int .i64 (hashR seed part s.data.toList).1, .bool (hashR seed part s.data.toList).2]) ∧ w = w' := by
  by_cases h1 : seedB seed part = true
  · by_cases h2 : isKeyB s.data.toList = true
    · obtain ⟨a1, a2, b1, b2⟩ := seedB_out h1
      have h3 := Lib.hid (show hashR seed part s.data.toList = (hashI seed part s.data.toList, true) by simp [hashR, h1, h2])
      go_enter Try.func53, Try.ntmps53
      go_wp2_with (first
        | (go_at_call 113; refine (impl_isHashNumber _ _ _).mono ?_; rintro e w' ⟨rfl, rfl⟩)
        | (go_at_call 70; refine (impl_isKey _ _ hs).mono ?_; rintro e w' ⟨rfl, rfl⟩)
        | (go_at_call 117; refine (impl_hashKey _ _ _ _ hs a1 a2 b1 b2).mono ?_; rintro e w' ⟨rfl, rfl⟩))
      go_ret2
      rw [h3.out]; exact ⟨rfl, rfl⟩
    · have h2 : isKeyB s.data.toList = false := by simpa using h2
      have h3 := Lib.hid (show hashR seed part s.data.toList = (0, false) by simp [hashR, h2])
      go_enter Try.func53, Try.ntmps53
      go_wp2_with (first
        | (go_at_call 113; refine (impl_isHashNumber _ _ _).mono ?_; rintro e w' ⟨rfl, rfl⟩)
        | (go_at_call 70; refine (impl_isKey _ _ hs).mono ?_; rintro e w' ⟨rfl, rfl⟩))
      go_ret2
      rw [h3.out]; exact ⟨rfl, rfl⟩
  · have h1 : seedB seed part = false := by simpa using h1
    have h3 := Lib.hid (show hashR seed part s.data.toList = (0, false) by simp [hashR, h1])
    go_enter Try.func53, Try.ntmps53
    go_wp2_with (first
      | (go_at_call 113; refine (impl_isHashNumber _ _ _).mono ?_; rintro e w' ⟨rfl, rfl⟩)
      | (go_at_call 70; refine (impl_isKey _ _ hs).mono ?_; rintro e w' ⟨rfl, rfl⟩))
    go_ret2
    rw [h3.out]; exact ⟨rfl, rfl⟩

set_option maxHeartbeats 400000 in
theorem spec_hashOf (seed part : Int) (s : ByteArray) (w : World) (hs : s.size ≤ maxLen) :
    Calls Try.prog 54 #[.int .i64 seed, .int .i64 part, .string s] w fun e w' => e = .returned (.tuple #[.int .i64 (hashR seed part s.data.toList).1, .bool (hashR seed part s.data.toList).2]) ∧ w = w' := by
  by_cases h1 : seedB seed part = true
  · by_cases h2 : isKeyB s.data.toList = true
    · obtain ⟨a1, a2, b1, b2⟩ := seedB_out h1
      have h3 := Lib.hid (show hashR seed part s.data.toList = (hashI seed part s.data.toList, true) by simp [hashR, h1, h2])
      go_enter Try.func54, Try.ntmps54
      go_wp2_with (first
        | (go_at_call 115; refine (spec_biSeed _ _ _).mono ?_; rintro e w' ⟨rfl, rfl⟩)
        | (go_at_call 69; refine (spec_isKey _ _ hs).mono ?_; rintro e w' ⟨rfl, rfl⟩)
        | (go_at_call 118; refine (spec_biHash _ _ _ _ hs a1 a2 b1 b2).mono ?_; rintro e w' ⟨rfl, rfl⟩))
      go_ret2
      rw [h3.out]; exact ⟨rfl, rfl⟩
    · have h2 : isKeyB s.data.toList = false := by simpa using h2
      have h3 := Lib.hid (show hashR seed part s.data.toList = (0, false) by simp [hashR, h2])
      go_enter Try.func54, Try.ntmps54
      go_wp2_with (first
        | (go_at_call 115; refine (spec_biSeed _ _ _).mono ?_; rintro e w' ⟨rfl, rfl⟩)
        | (go_at_call 69; refine (spec_isKey _ _ hs).mono ?_; rintro e w' ⟨rfl, rfl⟩))
      go_ret2
      rw [h3.out]; exact ⟨rfl, rfl⟩
  · have h1 : seedB seed part = false := by simpa using h1
    have h3 := Lib.hid (show hashR seed part s.data.toList = (0, false) by simp [hashR, h1])
    go_enter Try.func54, Try.ntmps54
    go_wp2_with (first
      | (go_at_call 115; refine (spec_biSeed _ _ _).mono ?_; rintro e w' ⟨rfl, rfl⟩)
      | (go_at_call 69; refine (spec_isKey _ _ hs).mono ?_; rintro e w' ⟨rfl, rfl⟩))
    go_ret2
    rw [h3.out]; exact ⟨rfl, rfl⟩

set_option maxHeartbeats 400000 in
theorem impl_placeOf (seed part n : Int) (s : ByteArray) (w : World) (hs : s.size ≤ maxLen) :
    Calls Try.prog 51 #[.int .i64 seed, .int .i64 part, .string s, .int .i64 n] w fun e w' => e = .returned (.tuple #[.int .i64 (placeR seed part s.data.toList n).1, .bool (placeR seed part s.data.toList n).2]) ∧ w = w' := by
  by_cases h1 : seedB seed part = true
  · by_cases h2 : isKeyB s.data.toList = true
    · by_cases n0 : 1 ≤ n
      · by_cases n1 : n ≤ 4096
        · have h3 := Lib.hid (show placeR seed part s.data.toList n = (placeI seed part s.data.toList n, true) by simp [placeR, h1, h2, n0, n1])
          go_enter Try.func51, Try.ntmps51
          go_wp2_with (first
        | (go_at_call 113; refine (impl_isHashNumber _ _ _).mono ?_; rintro e w' ⟨rfl, rfl⟩)
        | (go_at_call 70; refine (impl_isKey _ _ hs).mono ?_; rintro e w' ⟨rfl, rfl⟩)
        | (go_at_call 114; refine (impl_placeKey _ _ _ _ _ hs h1 (by omega) n1).mono ?_; rintro e w' ⟨rfl, rfl⟩))
          go_ret2
          rw [h3.out]; exact ⟨rfl, rfl⟩
        · have h3 := Lib.hid (show placeR seed part s.data.toList n = (0, false) by simp [placeR, n1])
          have hn : ¬ (1 ≤ n ∧ n ≤ 4096) := by omega
          go_enter Try.func51, Try.ntmps51
          go_wp2_with (first
        | (go_at_call 113; refine (impl_isHashNumber _ _ _).mono ?_; rintro e w' ⟨rfl, rfl⟩)
        | (go_at_call 70; refine (impl_isKey _ _ hs).mono ?_; rintro e w' ⟨rfl, rfl⟩))
          go_ret2
          rw [h3.out]; exact ⟨rfl, rfl⟩
      · have h3 := Lib.hid (show placeR seed part s.data.toList n = (0, false) by simp [placeR, n0])
        have hn : ¬ (1 ≤ n ∧ n ≤ 4096) := by omega
        go_enter Try.func51, Try.ntmps51
        go_wp2_with (first
        | (go_at_call 113; refine (impl_isHashNumber _ _ _).mono ?_; rintro e w' ⟨rfl, rfl⟩)
        | (go_at_call 70; refine (impl_isKey _ _ hs).mono ?_; rintro e w' ⟨rfl, rfl⟩))
        go_ret2
        rw [h3.out]; exact ⟨rfl, rfl⟩
    · have h2 : isKeyB s.data.toList = false := by simpa using h2
      have h3 := Lib.hid (show placeR seed part s.data.toList n = (0, false) by simp [placeR, h2])
      go_enter Try.func51, Try.ntmps51
      go_wp2_with (first
        | (go_at_call 113; refine (impl_isHashNumber _ _ _).mono ?_; rintro e w' ⟨rfl, rfl⟩)
        | (go_at_call 70; refine (impl_isKey _ _ hs).mono ?_; rintro e w' ⟨rfl, rfl⟩))
      go_ret2
      rw [h3.out]; exact ⟨rfl, rfl⟩
  · have h1 : seedB seed part = false := by simpa using h1
    have h3 := Lib.hid (show placeR seed part s.data.toList n = (0, false) by simp [placeR, h1])
    go_enter Try.func51, Try.ntmps51
    go_wp2_with (first
        | (go_at_call 113; refine (impl_isHashNumber _ _ _).mono ?_; rintro e w' ⟨rfl, rfl⟩)
        | (go_at_call 70; refine (impl_isKey _ _ hs).mono ?_; rintro e w' ⟨rfl, rfl⟩))
    go_ret2
    rw [h3.out]; exact ⟨rfl, rfl⟩

set_option maxHeartbeats 400000 in
theorem spec_placeOf (seed part n : Int) (s : ByteArray) (w : World) (hs : s.size ≤ maxLen) :
    Calls Try.prog 52 #[.int .i64 seed, .int .i64 part, .string s, .int .i64 n] w fun e w' => e = .returned (.tuple #[.int .i64 (placeR seed part s.data.toList n).1, .bool (placeR seed part s.data.toList n).2]) ∧ w = w' := by
  by_cases h1 : seedB seed part = true
  · by_cases h2 : isKeyB s.data.toList = true
    · by_cases n0 : 1 ≤ n
      · by_cases n1 : n ≤ 4096
        · have h3 := Lib.hid (show placeR seed part s.data.toList n = (placeI seed part s.data.toList n, true) by simp [placeR, h1, h2, n0, n1])
          go_enter Try.func52, Try.ntmps52
          go_wp2_with (first
        | (go_at_call 115; refine (spec_biSeed _ _ _).mono ?_; rintro e w' ⟨rfl, rfl⟩)
        | (go_at_call 69; refine (spec_isKey _ _ hs).mono ?_; rintro e w' ⟨rfl, rfl⟩)
        | (go_at_call 116; refine (spec_biPlace _ _ _ _ _ hs h1 (by omega) n1).mono ?_; rintro e w' ⟨rfl, rfl⟩)
        | (go_at_call 94; refine (l1In_yes _ _ _ _ n0 n1).mono ?_; rintro e w' ⟨rfl, rfl⟩))
          go_ret2
          rw [h3.out]; exact ⟨rfl, rfl⟩
        · have h3 := Lib.hid (show placeR seed part s.data.toList n = (0, false) by simp [placeR, n1])
          have hn : ¬ (1 ≤ n ∧ n ≤ 4096) := by omega
          go_enter Try.func52, Try.ntmps52
          go_wp2_with (first
        | (go_at_call 115; refine (spec_biSeed _ _ _).mono ?_; rintro e w' ⟨rfl, rfl⟩)
        | (go_at_call 69; refine (spec_isKey _ _ hs).mono ?_; rintro e w' ⟨rfl, rfl⟩)
        | (go_at_call 94; refine (l1In_no _ _ _ _ hn).mono ?_; rintro e w' ⟨rfl, rfl⟩))
          go_ret2
          rw [h3.out]; exact ⟨rfl, rfl⟩
      · have h3 := Lib.hid (show placeR seed part s.data.toList n = (0, false) by simp [placeR, n0])
        have hn : ¬ (1 ≤ n ∧ n ≤ 4096) := by omega
        go_enter Try.func52, Try.ntmps52
        go_wp2_with (first
        | (go_at_call 115; refine (spec_biSeed _ _ _).mono ?_; rintro e w' ⟨rfl, rfl⟩)
        | (go_at_call 69; refine (spec_isKey _ _ hs).mono ?_; rintro e w' ⟨rfl, rfl⟩)
        | (go_at_call 94; refine (l1In_no _ _ _ _ hn).mono ?_; rintro e w' ⟨rfl, rfl⟩))
        go_ret2
        rw [h3.out]; exact ⟨rfl, rfl⟩
    · have h2 : isKeyB s.data.toList = false := by simpa using h2
      have h3 := Lib.hid (show placeR seed part s.data.toList n = (0, false) by simp [placeR, h2])
      go_enter Try.func52, Try.ntmps52
      go_wp2_with (first
        | (go_at_call 115; refine (spec_biSeed _ _ _).mono ?_; rintro e w' ⟨rfl, rfl⟩)
        | (go_at_call 69; refine (spec_isKey _ _ hs).mono ?_; rintro e w' ⟨rfl, rfl⟩))
      go_ret2
      rw [h3.out]; exact ⟨rfl, rfl⟩
  · have h1 : seedB seed part = false := by simpa using h1
    have h3 := Lib.hid (show placeR seed part s.data.toList n = (0, false) by simp [placeR, h1])
    go_enter Try.func52, Try.ntmps52
    go_wp2_with (first
        | (go_at_call 115; refine (spec_biSeed _ _ _).mono ?_; rintro e w' ⟨rfl, rfl⟩)
        | (go_at_call 69; refine (spec_isKey _ _ hs).mono ?_; rintro e w' ⟨rfl, rfl⟩))
    go_ret2
    rw [h3.out]; exact ⟨rfl, rfl⟩

end Go.Proofs.Ytglccgpiakadbaa
