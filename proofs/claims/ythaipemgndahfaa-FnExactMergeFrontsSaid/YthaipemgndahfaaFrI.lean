/- What is asked of fronts: both sides. -/
import Derived.Test.YthaipemgndahfaaFrKs
import Derived.Test.YthaipemgndahfaaSrtF
import Derived.Test.YthaipemgndahfaaCtS
namespace Go.Proofs.Ythaipemgndahfaa
open Go.RowKit

/-- How many of the first strings are less than another one. -/
def rkS (S : Nat → ByteArray) (x : ByteArray) : Nat → Nat
  | 0 => 0
  | k + 1 => rkS S x k + if ltS (S k) x = true then 1 else 0
theorem rkS_le (S : Nat → ByteArray) (x : ByteArray) : ∀ k, rkS S x k ≤ k
  | 0 => Nat.le_refl _
  | k + 1 => by have := rkS_le S x k; rw [rkS]; split <;> omega
theorem inc_ltF {H : Nat → ByteArray} {m : Nat} (h : Inc (lsOf H m)) {i j : Nat} (hij : i < j) (hj : j < m) : (H i).data.toList < (H j).data.toList := by
  have h1 := List.pairwise_iff_getElem.1 h i j (by rw [lsOf_len]; omega) (by rw [lsOf_len]; exact hj) hij
  simpa [lsOf] using h1
theorem rkS_is {S : Nat → ByteArray} {x : ByteArray} {k : Nat} : ∀ m, k ≤ m → (∀ i, i < k → ltS (S i) x = true) → (∀ i, k ≤ i → i < m → ltS (S i) x = false) → rkS S x m = k
  | 0, h, _, _ => by rw [rkS]; omega
  | m + 1, h, h1, h2 => by
    rw [rkS]
    by_cases e : k = m + 1
    · subst e
      rw [rkS_is m (k := m) (Nat.le_refl _) (fun i hi => h1 i (by omega)) (fun i hi hj => absurd hj (by omega)), if_pos (h1 m (by omega))]
    · rw [rkS_is m (by omega) h1 (fun i hi hj => h2 i hi (by omega)), if_neg (by rw [h2 m (by omega) (by omega)]; simp)]; rfl
/-- The string with a number, if it is one of the first. -/
def inN (n : Nat) (i : Int) : Bool := decide (0 ≤ i ∧ i < (n : Int))
def atS (S : Nat → ByteArray) (n : Nat) (i : Int) : ByteArray := if 0 ≤ i ∧ i < (n : Int) then S i.toNat else ByteArray.empty
theorem atS_yes {S : Nat → ByteArray} {n q : Nat} (h : q < n) : atS S n q = S q ∧ inN n q = true := by
  unfold atS inN
  rw [if_pos (by omega), decide_eq_true_eq]
  exact ⟨rfl, by omega⟩
theorem atS_no {S : Nat → ByteArray} {n : Nat} {i : Int} (h : ¬ (0 ≤ i ∧ i < (n : Int))) : atS S n i = ByteArray.empty ∧ inN n i = false := by
  unfold atS inN
  rw [if_neg h, decide_eq_false_iff_not]
  exact ⟨rfl, h⟩
/-- What a search in an increasing row answers. -/
def BsR (H : Nat → ByteArray) (m : Nat) (x : ByteArray) (w : World) (e : Ending) (w' : World) : Prop :=
  ∃ r : Bool, e = .returned (.tuple #[.int .i64 (rkS H x m), .bool r]) ∧ (r = true ↔ ∃ i, i < m ∧ H i = x) ∧ Below w.heap.size w w'
theorem search_rank (B : Option Addr) (m d : Nat) (H : Nat → ByteArray) (x : ByteArray) (w : World) (hm : m ≤ 1048576) (hi : Inc (lsOf H m)) (hr : GRow w B m (strV H)) :
    Calls Try.prog 54 #[.slice B m d, .string x] w (BsR H m x w) := by
  rcases Nat.eq_zero_or_pos m with h0 | h0
  · subst h0
    refine (show Calls Try.prog 54 _ _ _ from Any2.slices_BinarySearch_string_empty (P := Try.prog) laysBs B d x w).mono ?_
    rintro e w' ⟨rfl, rfl⟩
    exact ⟨false, rfl, by simp, Below.refl _ _⟩
  · obtain ⟨b, off, rfl, _, hc⟩ := hr h0
    obtain ⟨k, hk, h1, h2⟩ := first_not (fun i => (H i).data.toList < x.data.toList) m
    let H' : Nat → ByteArray := fun t => if t < m then H t else x
    have hlo : ∀ t, t < k → ltS (H t) x = true := fun t ht => by rw [ltS_is]; simpa using h1 t ht
    have hhi : ∀ t, k ≤ t → t < m → ltS (H t) x = false := fun t ht htm => by
      rw [ltS_is]
      simp only [decide_eq_false_iff_not]
      by_cases e3 : t = k
      · subst e3; exact h2 (by omega)
      · exact fun h4 => h2 (by omega) (bs_tr (inc_ltF hi (show k < t by omega) htm) h4)
    have hk2 : Go.Lib.bsGo (fun t => Go.Op.bytesLess (H' t).toList x.toList) m 0 m = k := by
      refine Go.Lib.bsGo_spec _ k (fun t ht => ?_) (fun t ht => ?_) m 0 m (by omega) (by omega) hk
      · show ltS (H' t) x = true
        have : H' t = H t := if_pos (by omega)
        rw [this]; exact hlo t ht
      · show ltS (H' t) x = false
        by_cases e : t < m
        · have e2 : H' t = H t := if_pos e
          rw [e2]; exact hhi t ht e
        · have e2 : H' t = x := if_neg e
          rw [e2]; exact ltS_irr x
    have hR : rkS H x m = k := rkS_is m hk hlo hhi
    refine (show Calls Try.prog 54 _ _ _ from Any2.slices_BinarySearch_string (P := Try.prog) laysBs b off m d H' x w (by omega) (fun j hj => by rw [hc j hj]; show _ = some (Value.string (H' j)); rw [show H' j = H j from if_pos hj]; rfl)).mono ?_
    rintro e w' ⟨rfl, q, rfl⟩
    rw [hk2]
    refine ⟨_, by rw [hR], ?_, below_drewN (Below.refl _ _) q⟩
    simp only [decide_eq_true_eq]
    constructor
    · rintro ⟨hkm, he⟩
      exact ⟨k, hkm, by rwa [show H' k = H k from if_pos hkm] at he⟩
    · rintro ⟨j, hj, he⟩
      have hjk : ¬ j < k := fun hl => by
        have := h1 j hl
        rw [he] at this
        exact bs_irr _ this
      have hkm : k < m := by omega
      refine ⟨hkm, ?_⟩
      rw [show H' k = H k from if_pos hkm]
      by_cases e3 : j = k
      · subst e3; exact he
      · have h5 := inc_ltF hi (show k < j by omega) hj
        rw [he] at h5
        exact absurd h5 (h2 hkm)
section
variable {A : Option Addr} {n c : Nat} {S : Nat → ByteArray} {x : ByteArray} {w : World}
set_option maxRecDepth 100000 in
set_option maxHeartbeats 1000000 in
theorem spec_trRank (hn : n ≤ 1048576) (hr : GRow w A n (strV S)) :
    Calls Try.prog 53 #[.slice A n c, .string x] w fun e w' => e = .returned (.int .i64 (rkS S x n)) ∧ w = w' := by
  have HR := Lib.hid hr
  clear hr
  go_enter Try.func53, Try.ntmps53
  go_wp2_with fail
  go_loop [5, 10] (fun r i => ∃ q : Nat, q ≤ n ∧ i = .int .i64 q ∧ r = .int .i64 (rkS S x q)) (fun _ i => n - (intOf i).toNat)
  case atStart => exact ⟨0, Nat.zero_le _, rfl, rfl⟩
  case round =>
    obtain ⟨q, hq, rfl, rfl⟩ := hrel
    by_cases hlt : q < n
    · obtain ⟨b, off, rfl, hbl, hcc⟩ := HR.out (by omega)
      have hx : w.cell? ⟨b, off + q, none⟩ = some (.string (S q)) := hcc q hlt
      have hle := rkS_le S x q
      clear hcc
      cases he : ltS (S q) x with
      | true =>
        have HN := Lib.hid (show rkS S x (q + 1) = rkS S x q + 1 by rw [rkS, if_pos he])
        have he2 : Go.Op.bytesLess (S q).toList x.toList = true := he
        clear he
        go_wp2_with fail
        go_round
        case rel => exact ⟨q + 1, by omega, by go_num, by rw [HN.out]; go_num⟩
        case measure => simp [intOf]; omega
      | false =>
        have HN := Lib.hid (show rkS S x (q + 1) = rkS S x q by rw [rkS, if_neg (by rw [he]; simp)]; rfl)
        have he2 : Go.Op.bytesLess (S q).toList x.toList = false := he
        clear he
        go_wp2_with fail
        go_round
        case rel => exact ⟨q + 1, by omega, by go_num, by rw [HN.out]⟩
        case measure => simp [intOf]; omega
    · obtain rfl : q = n := by omega
      go_wp2_with fail
      go_ret
      exact ⟨rfl, rfl⟩
end
/-- All bytes of strings. -/
def sumS (T : Nat → ByteArray) : Nat → Nat
  | 0 => 0
  | k + 1 => sumS T k + (T k).size
section
variable {z : Int} {A : Option Addr} {n c : Nat} {K : Nat → Int} {B : Option Addr} {m d : Nat} {T : Nat → ByteArray} {w : World}
theorem FrV.inc (h : FrV z n K m T) : Inc (lsOf (frK K T) n) := (keysB_inc.1 h.2.2.2.2.1).2.2
theorem FrV.ksize (h : FrV z n K m T) : ∀ i, i < n → (frK K T i).size ≤ 12 := fun i hi => h.2.2.2.1.size (i + 1) (by omega)
theorem FrV.tsize (h : FrV z n K m T) : ∀ i, i < m → (T i).size ≤ 12 := fun i hi => by
  have h1 := h.2.2.2.2.2.2 i (by have := h.2.2.1; omega)
  have h2 := h.ksize i (by have := h.2.2.1; omega)
  rw [h1]; unfold tailF; simp; omega
theorem sumS_le {T : Nat → ByteArray} {m : Nat} (h : ∀ i, i < m → (T i).size ≤ 12) : ∀ k, k ≤ m → sumS T k ≤ 12 * k
  | 0, _ => by simp [sumS]
  | k + 1, hk => by have := sumS_le h k (by omega); have := h k (by omega); rw [sumS]; omega

set_option maxRecDepth 100000 in
set_option maxHeartbeats 2000000 in
theorem impl_isFront (hn : n ≤ 1048576) (hm : m ≤ 1048576) (hs : ∀ i, i < m → (T i).size ≤ 1048576) (h1 : IRow w A n K) (h2 : GRow w B m (strV T)) :
    Calls Try.prog 23 #[.agg #[.int .i64 z, .slice A n c, .slice B m d]] w fun e w' => e = .returned (.bool (frB z n K m T)) ∧ Below w.heap.size w w' := by
  have C0 := Lib.hid (FL.start (z := z) (c := c) (d := d) h1 h2 26)
  have k0 := C0.out.c0
  have k1 := C0.out.c1
  have k2 := C0.out.c2
  clear h1 h2
  go_enter Try.func23, Try.ntmps23
  go_wp2_with fail
  refine (impl_frontKeys hn hm hs C0.out.r1 C0.out.r2).mono ?_; rintro e w1 hF
  clear k0 k1 k2
  rcases hF with ⟨hV, A1, c1, rfl, o1, hc1, hb1⟩ | ⟨hV, ⟨v, rfl⟩, hb1⟩
  · have HB := Lib.hid (C0.out.below.trans (hb1.mono C0.out.below.size))
    have HE := Lib.hid (frB_iff.2 hV)
    clear hb1 hV o1
    go_wp2_with fail
    go_ret
    exact ⟨by rw [HE.out]; rfl, HB.out⟩
  · have HB := Lib.hid (C0.out.below.trans (hb1.mono C0.out.below.size))
    have HE := Lib.hid (show frB z n K m T = false from by
      cases hh : frB z n K m T with
      | false => rfl
      | true => exact absurd (frB_iff.1 hh) hV)
    clear hb1 hV
    go_wp2_with fail
    go_ret
    exact ⟨by rw [HE.out]; rfl, HB.out⟩

set_option maxRecDepth 100000 in
set_option maxHeartbeats 2000000 in
theorem impl_frontKey_no (i : Int) (hn : n ≤ 1048576) (hm : m ≤ 1048576) (hs : ∀ i, i < m → (T i).size ≤ 1048576) (h1 : IRow w A n K) (h2 : GRow w B m (strV T)) (h : ¬ FrV z n K m T) :
    Calls Try.prog 25 #[.agg #[.int .i64 z, .slice A n c, .slice B m d], .int .i64 i] w fun e w' => e = .returned (.tuple #[.string ByteArray.empty, .bool false]) ∧ Below w.heap.size w w' := by
  have C0 := Lib.hid (FL.start (z := z) (c := c) (d := d) h1 h2 26)
  have k0 := C0.out.c0
  have k1 := C0.out.c1
  have k2 := C0.out.c2
  clear h1 h2
  go_enter Try.func25, Try.ntmps25
  go_wp2_with fail
  refine (impl_frontKeys hn hm hs C0.out.r1 C0.out.r2).mono ?_; rintro e w1 hF
  clear k0 k1 k2
  rcases hF with ⟨hV, _⟩ | ⟨hV, ⟨v, rfl⟩, hb1⟩
  · exact absurd hV h
  have HB := Lib.hid (C0.out.below.trans (hb1.mono C0.out.below.size))
  clear hb1 hV
  go_wp2_with fail
  go_ret2
  exact ⟨rfl, HB.out⟩

set_option maxRecDepth 100000 in
set_option maxHeartbeats 2000000 in
theorem impl_frontRank_no (x : ByteArray) (hn : n ≤ 1048576) (hm : m ≤ 1048576) (hs : ∀ i, i < m → (T i).size ≤ 1048576) (h1 : IRow w A n K) (h2 : GRow w B m (strV T)) (h : ¬ FrV z n K m T) :
    Calls Try.prog 27 #[.agg #[.int .i64 z, .slice A n c, .slice B m d], .string x] w fun e w' => e = .returned (.tuple #[.int .i64 0, .bool false]) ∧ Below w.heap.size w w' := by
  have C0 := Lib.hid (FL.start (z := z) (c := c) (d := d) h1 h2 26)
  have k0 := C0.out.c0
  have k1 := C0.out.c1
  have k2 := C0.out.c2
  clear h1 h2
  go_enter Try.func27, Try.ntmps27
  go_wp2_with fail
  refine (impl_frontKeys hn hm hs C0.out.r1 C0.out.r2).mono ?_; rintro e w1 hF
  clear k0 k1 k2
  rcases hF with ⟨hV, _⟩ | ⟨hV, ⟨v, rfl⟩, hb1⟩
  · exact absurd hV h
  have HB := Lib.hid (C0.out.below.trans (hb1.mono C0.out.below.size))
  clear hb1 hV
  go_wp2_with fail
  go_ret2
  exact ⟨rfl, HB.out⟩

set_option maxRecDepth 100000 in
set_option maxHeartbeats 2000000 in
theorem impl_frontHas_no (x : ByteArray) (hn : n ≤ 1048576) (hm : m ≤ 1048576) (hs : ∀ i, i < m → (T i).size ≤ 1048576) (h1 : IRow w A n K) (h2 : GRow w B m (strV T)) (h : ¬ FrV z n K m T) :
    Calls Try.prog 29 #[.agg #[.int .i64 z, .slice A n c, .slice B m d], .string x] w fun e w' => e = .returned (.tuple #[.bool false, .bool false]) ∧ Below w.heap.size w w' := by
  have C0 := Lib.hid (FL.start (z := z) (c := c) (d := d) h1 h2 26)
  have k0 := C0.out.c0
  have k1 := C0.out.c1
  have k2 := C0.out.c2
  clear h1 h2
  go_enter Try.func29, Try.ntmps29
  go_wp2_with fail
  refine (impl_frontKeys hn hm hs C0.out.r1 C0.out.r2).mono ?_; rintro e w1 hF
  clear k0 k1 k2
  rcases hF with ⟨hV, _⟩ | ⟨hV, ⟨v, rfl⟩, hb1⟩
  · exact absurd hV h
  have HB := Lib.hid (C0.out.below.trans (hb1.mono C0.out.below.size))
  clear hb1 hV
  go_wp2_with fail
  go_ret2
  exact ⟨rfl, HB.out⟩

set_option maxRecDepth 100000 in
set_option maxHeartbeats 2000000 in
theorem impl_frontKey (i : Int) (hn : n ≤ 1048576) (hm : m ≤ 1048576) (hs : ∀ i, i < m → (T i).size ≤ 1048576) (h1 : IRow w A n K) (h2 : GRow w B m (strV T)) (h : FrV z n K m T) :
    Calls Try.prog 25 #[.agg #[.int .i64 z, .slice A n c, .slice B m d], .int .i64 i] w fun e w' => e = .returned (.tuple #[.string (atS (frK K T) n i), .bool (inN n i)]) ∧ Below w.heap.size w w' := by
  have C0 := Lib.hid (FL.start (z := z) (c := c) (d := d) h1 h2 26)
  have k0 := C0.out.c0
  have k1 := C0.out.c1
  have k2 := C0.out.c2
  clear h1 h2
  go_enter Try.func25, Try.ntmps25
  go_wp2_with fail
  refine (impl_frontKeys hn hm hs C0.out.r1 C0.out.r2).mono ?_; rintro e w1 hF
  clear k0 k1 k2
  rcases hF with ⟨hV, A1, c1, rfl, o1, hc1, hb1⟩ | ⟨hV, _⟩
  rotate_left
  · exact absurd h hV
  have HB := Lib.hid (C0.out.below.trans (hb1.mono C0.out.below.size))
  have HR := Lib.hid (o1.rd.row (Nat.le_refl _))
  have HV := Lib.hid h
  clear hb1 hV o1
  by_cases hi : 0 ≤ i ∧ i < (n : Int)
  · obtain ⟨q, rfl⟩ : ∃ q : Nat, i = q := ⟨i.toNat, by omega⟩
    have HE := Lib.hid (atS_yes (S := frK K T) (n := n) (q := q) (by omega))
    have d0 : decide ((q : Int) < 0) = false := by simp
    have d1 : decide ((n : Int) ≤ (q : Int)) = false := by simp; omega
    obtain ⟨b, off, rfl, _, hcc⟩ := HR.out (by omega)
    have hx : w1.cell? ⟨b, off + q, none⟩ = some (.string (frK K T q)) := hcc q (by omega)
    have hq : q < n := by omega
    clear hcc
    go_wp2_with fail
    go_ret2
    exact ⟨by rw [HE.out.1, HE.out.2]; rfl, HB.out⟩
  · have HI := Lib.hid hi
    by_cases h0 : i < 0
    · go_wp2_with fail
      go_ret2
      exact ⟨by rw [(atS_no HI.out).1, (atS_no (S := frK K T) HI.out).2]; rfl, HB.out⟩
    · have d0 : decide (i < 0) = false := by simpa using h0
      have d1 : decide ((n : Int) ≤ i) = true := by simp; omega
      clear hi h0
      go_wp2_with fail
      go_ret2
      exact ⟨by rw [(atS_no HI.out).1, (atS_no (S := frK K T) HI.out).2]; rfl, HB.out⟩

set_option maxRecDepth 100000 in
set_option maxHeartbeats 2000000 in
theorem impl_frontRank (x : ByteArray) (hn : n ≤ 1048576) (hm : m ≤ 1048576) (hs : ∀ i, i < m → (T i).size ≤ 1048576) (h1 : IRow w A n K) (h2 : GRow w B m (strV T)) (h : FrV z n K m T) :
    Calls Try.prog 27 #[.agg #[.int .i64 z, .slice A n c, .slice B m d], .string x] w fun e w' => e = .returned (.tuple #[.int .i64 (rkS (frK K T) x n), .bool true]) ∧ Below w.heap.size w w' := by
  have C0 := Lib.hid (FL.start (z := z) (c := c) (d := d) h1 h2 26)
  have k0 := C0.out.c0
  have k1 := C0.out.c1
  have k2 := C0.out.c2
  clear h1 h2
  go_enter Try.func27, Try.ntmps27
  go_wp2_with fail
  refine (impl_frontKeys hn hm hs C0.out.r1 C0.out.r2).mono ?_; rintro e w1 hF
  clear k0 k1 k2
  rcases hF with ⟨hV, A1, c1, rfl, o1, hc1, hb1⟩ | ⟨hV, _⟩
  rotate_left
  · exact absurd h hV
  have HB := Lib.hid (C0.out.below.trans (hb1.mono C0.out.below.size))
  have HR := Lib.hid (o1.rd.row (Nat.le_refl _))
  have HV := Lib.hid h
  clear hb1 hV o1
  go_wp2_with fail
  refine (search_rank A1 n c1 _ x w1 hn HV.out.inc HR.out).mono ?_; rintro e w2 ⟨r, rfl, hr, hb2⟩
  have HB2 := Lib.hid (HB.out.trans (hb2.mono HB.out.size))
  clear hb2 hr
  go_wp2_with fail
  go_ret2
  exact ⟨rfl, HB2.out⟩

set_option maxRecDepth 100000 in
set_option maxHeartbeats 2000000 in
theorem impl_frontHas (x : ByteArray) (hn : n ≤ 1048576) (hm : m ≤ 1048576) (hs : ∀ i, i < m → (T i).size ≤ 1048576) (h1 : IRow w A n K) (h2 : GRow w B m (strV T)) (h : FrV z n K m T) :
    Calls Try.prog 29 #[.agg #[.int .i64 z, .slice A n c, .slice B m d], .string x] w fun e w' => e = .returned (.tuple #[.bool (hasZ (frK K T) n x), .bool true]) ∧ Below w.heap.size w w' := by
  have C0 := Lib.hid (FL.start (z := z) (c := c) (d := d) h1 h2 26)
  have k0 := C0.out.c0
  have k1 := C0.out.c1
  have k2 := C0.out.c2
  clear h1 h2
  go_enter Try.func29, Try.ntmps29
  go_wp2_with fail
  refine (impl_frontKeys hn hm hs C0.out.r1 C0.out.r2).mono ?_; rintro e w1 hF
  clear k0 k1 k2
  rcases hF with ⟨hV, A1, c1, rfl, o1, hc1, hb1⟩ | ⟨hV, _⟩
  rotate_left
  · exact absurd h hV
  have HB := Lib.hid (C0.out.below.trans (hb1.mono C0.out.below.size))
  have HR := Lib.hid (o1.rd.row (Nat.le_refl _))
  have HV := Lib.hid h
  clear hb1 hV o1
  go_wp2_with fail
  refine (search_rank A1 n c1 _ x w1 hn HV.out.inc HR.out).mono ?_; rintro e w2 ⟨r, rfl, hr, hb2⟩
  have HB2 := Lib.hid (HB.out.trans (hb2.mono HB.out.size))
  obtain rfl : r = hasZ (frK K T) n x := Bool.eq_iff_iff.2 (hr.trans hasZ_iff.symm)
  clear hb2 hr
  go_wp2_with fail
  go_ret2
  exact ⟨rfl, HB2.out⟩

set_option maxRecDepth 100000 in
set_option maxHeartbeats 2000000 in
theorem impl_frontBytes_no (hn : n ≤ 1048576) (hm : m ≤ 1048576) (hs : ∀ i, i < m → (T i).size ≤ 1048576) (h1 : IRow w A n K) (h2 : GRow w B m (strV T)) (h : ¬ FrV z n K m T) :
    Calls Try.prog 31 #[.agg #[.int .i64 z, .slice A n c, .slice B m d]] w fun e w' => e = .returned (.tuple #[.int .i64 0, .bool false]) ∧ Below w.heap.size w w' := by
  have C0 := Lib.hid (FL.start (z := z) (c := c) (d := d) h1 h2 26)
  have k0 := C0.out.c0
  have k1 := C0.out.c1
  have k2 := C0.out.c2
  clear h1 h2
  go_enter Try.func31, Try.ntmps31
  go_wp2_with fail
  refine (impl_isFront hn hm hs C0.out.r1 C0.out.r2).mono ?_; rintro e w1 ⟨rfl, hb1⟩
  have C1 := Lib.hid (C0.out.b hb1)
  clear hb1 k0 k1 k2
  rw [show frB z n K m T = false from by
      cases hh : frB z n K m T with
      | false => rfl
      | true => exact absurd (frB_iff.1 hh) h]
  go_wp2_with fail
  go_ret2
  exact ⟨rfl, C1.out.below⟩

set_option maxRecDepth 100000 in
set_option maxHeartbeats 2000000 in
theorem impl_frontBytes (hn : n ≤ 1048576) (hm : m ≤ 1048576) (hs : ∀ i, i < m → (T i).size ≤ 1048576) (h1 : IRow w A n K) (h2 : GRow w B m (strV T)) (h : FrV z n K m T) :
    Calls Try.prog 31 #[.agg #[.int .i64 z, .slice A n c, .slice B m d]] w fun e w' => e = .returned (.tuple #[.int .i64 ((n + sumS T m : Nat) : Int), .bool true]) ∧ Below w.heap.size w w' := by
  have C0 := Lib.hid (FL.start (z := z) (c := c) (d := d) h1 h2 26)
  have k0 := C0.out.c0
  have k1 := C0.out.c1
  have k2 := C0.out.c2
  clear h1 h2
  go_enter Try.func31, Try.ntmps31
  go_wp2_with fail
  refine (impl_isFront hn hm hs C0.out.r1 C0.out.r2).mono ?_; rintro e w1 ⟨rfl, hb1⟩
  have C1 := Lib.hid (C0.out.b hb1)
  clear hb1 k0 k1 k2
  rw [frB_iff.2 h]
  have k1 := C1.out.c1
  have k2 := C1.out.c2
  have HT := Lib.hid h.tsize
  have hn40 := h.n40
  have hm40 : m ≤ 40 := by have := h.2.2.1; omega
  clear h
  go_wp2_with fail
  go_loop [4, 16] (fun r i => ∃ q : Nat, q ≤ m ∧ i = .int .i64 q ∧ r = .int .i64 ((n + sumS T q : Nat) : Int)) (fun _ i => m - (intOf i).toNat)
  case atStart => exact ⟨0, Nat.zero_le _, rfl, by simp [sumS]⟩
  case round =>
    obtain ⟨q, hq, rfl, rfl⟩ := hrel
    by_cases hlt : q < m
    · obtain ⟨b, off, rfl, hbl, hcc⟩ := C1.out.r2 (by omega)
      have hx : w1.cell? ⟨b, off + q, none⟩ = some (.string (T q)) := hcc q hlt
      have hle := sumS_le HT.out q hq
      have hle2 := HT.out q hlt
      have HN := Lib.hid (show n + sumS T (q + 1) = n + sumS T q + (T q).size by rw [sumS]; omega)
      clear hcc
      go_wp2_with fail
      go_round
      case rel => exact ⟨q + 1, by omega, by go_num, by rw [HN.out]; go_num⟩
      case measure => simp [intOf]; omega
    · obtain rfl : q = m := by omega
      go_wp2_with fail
      go_ret2
      exact ⟨rfl, C1.out.below⟩

set_option maxRecDepth 100000 in
set_option maxHeartbeats 2000000 in
theorem spec_isFront (hn : n ≤ 1048576) (hm : m ≤ 1048576) (_hs : ∀ i, i < m → (T i).size ≤ 1048576) (h1 : IRow w A n K) (h2 : GRow w B m (strV T)) :
    Calls Try.prog 21 #[.agg #[.int .i64 z, .slice A n c, .slice B m d]] w fun e w' => e = .returned (.bool (frB z n K m T)) ∧ Below w.heap.size w w' := by
  have C0 := Lib.hid (FL.start (z := z) (c := c) (d := d) h1 h2 26)
  have k0 := C0.out.c0
  have k1 := C0.out.c1
  have k2 := C0.out.c2
  clear h1 h2
  go_enter Try.func21, Try.ntmps21
  go_wp2_with fail
  refine (spec_trFronted hn hm C0.out.r1 C0.out.r2).mono ?_; rintro e w1 hF
  clear k0 k1 k2
  rcases hF with ⟨hV, A1, c1, rfl, o1, hc1, hb1⟩ | ⟨hV, ⟨v, rfl⟩, hb1⟩
  · have HB := Lib.hid (C0.out.below.trans (hb1.mono C0.out.below.size))
    have HE := Lib.hid (frB_iff.2 hV)
    clear hb1 hV o1
    go_wp2_with fail
    go_ret
    exact ⟨by rw [HE.out]; rfl, HB.out⟩
  · have HB := Lib.hid (C0.out.below.trans (hb1.mono C0.out.below.size))
    have HE := Lib.hid (show frB z n K m T = false from by
      cases hh : frB z n K m T with
      | false => rfl
      | true => exact absurd (frB_iff.1 hh) hV)
    clear hb1 hV
    go_wp2_with fail
    go_ret
    exact ⟨by rw [HE.out]; rfl, HB.out⟩

set_option maxRecDepth 100000 in
set_option maxHeartbeats 2000000 in
theorem spec_frontKey_no (i : Int) (hn : n ≤ 1048576) (hm : m ≤ 1048576) (_hs : ∀ i, i < m → (T i).size ≤ 1048576) (h1 : IRow w A n K) (h2 : GRow w B m (strV T)) (h : ¬ FrV z n K m T) :
    Calls Try.prog 24 #[.agg #[.int .i64 z, .slice A n c, .slice B m d], .int .i64 i] w fun e w' => e = .returned (.tuple #[.string ByteArray.empty, .bool false]) ∧ Below w.heap.size w w' := by
  have C0 := Lib.hid (FL.start (z := z) (c := c) (d := d) h1 h2 26)
  have k0 := C0.out.c0
  have k1 := C0.out.c1
  have k2 := C0.out.c2
  clear h1 h2
  go_enter Try.func24, Try.ntmps24
  go_wp2_with fail
  refine (spec_trFronted hn hm C0.out.r1 C0.out.r2).mono ?_; rintro e w1 hF
  clear k0 k1 k2
  rcases hF with ⟨hV, _⟩ | ⟨hV, ⟨v, rfl⟩, hb1⟩
  · exact absurd hV h
  have HB := Lib.hid (C0.out.below.trans (hb1.mono C0.out.below.size))
  clear hb1 hV
  go_wp2_with fail
  go_ret2
  exact ⟨rfl, HB.out⟩

set_option maxRecDepth 100000 in
set_option maxHeartbeats 2000000 in
theorem spec_frontRank_no (x : ByteArray) (hn : n ≤ 1048576) (hm : m ≤ 1048576) (_hs : ∀ i, i < m → (T i).size ≤ 1048576) (h1 : IRow w A n K) (h2 : GRow w B m (strV T)) (h : ¬ FrV z n K m T) :
    Calls Try.prog 26 #[.agg #[.int .i64 z, .slice A n c, .slice B m d], .string x] w fun e w' => e = .returned (.tuple #[.int .i64 0, .bool false]) ∧ Below w.heap.size w w' := by
  have C0 := Lib.hid (FL.start (z := z) (c := c) (d := d) h1 h2 26)
  have k0 := C0.out.c0
  have k1 := C0.out.c1
  have k2 := C0.out.c2
  clear h1 h2
  go_enter Try.func26, Try.ntmps26
  go_wp2_with fail
  refine (spec_trFronted hn hm C0.out.r1 C0.out.r2).mono ?_; rintro e w1 hF
  clear k0 k1 k2
  rcases hF with ⟨hV, _⟩ | ⟨hV, ⟨v, rfl⟩, hb1⟩
  · exact absurd hV h
  have HB := Lib.hid (C0.out.below.trans (hb1.mono C0.out.below.size))
  clear hb1 hV
  go_wp2_with fail
  go_ret2
  exact ⟨rfl, HB.out⟩

set_option maxRecDepth 100000 in
set_option maxHeartbeats 2000000 in
theorem spec_frontHas_no (x : ByteArray) (hn : n ≤ 1048576) (hm : m ≤ 1048576) (_hs : ∀ i, i < m → (T i).size ≤ 1048576) (h1 : IRow w A n K) (h2 : GRow w B m (strV T)) (h : ¬ FrV z n K m T) :
    Calls Try.prog 28 #[.agg #[.int .i64 z, .slice A n c, .slice B m d], .string x] w fun e w' => e = .returned (.tuple #[.bool false, .bool false]) ∧ Below w.heap.size w w' := by
  have C0 := Lib.hid (FL.start (z := z) (c := c) (d := d) h1 h2 26)
  have k0 := C0.out.c0
  have k1 := C0.out.c1
  have k2 := C0.out.c2
  clear h1 h2
  go_enter Try.func28, Try.ntmps28
  go_wp2_with fail
  refine (spec_trFronted hn hm C0.out.r1 C0.out.r2).mono ?_; rintro e w1 hF
  clear k0 k1 k2
  rcases hF with ⟨hV, _⟩ | ⟨hV, ⟨v, rfl⟩, hb1⟩
  · exact absurd hV h
  have HB := Lib.hid (C0.out.below.trans (hb1.mono C0.out.below.size))
  clear hb1 hV
  go_wp2_with fail
  go_ret2
  exact ⟨rfl, HB.out⟩

set_option maxRecDepth 100000 in
set_option maxHeartbeats 2000000 in
theorem spec_frontKey (i : Int) (hn : n ≤ 1048576) (hm : m ≤ 1048576) (_hs : ∀ i, i < m → (T i).size ≤ 1048576) (h1 : IRow w A n K) (h2 : GRow w B m (strV T)) (h : FrV z n K m T) :
    Calls Try.prog 24 #[.agg #[.int .i64 z, .slice A n c, .slice B m d], .int .i64 i] w fun e w' => e = .returned (.tuple #[.string (atS (frK K T) n i), .bool (inN n i)]) ∧ Below w.heap.size w w' := by
  have C0 := Lib.hid (FL.start (z := z) (c := c) (d := d) h1 h2 26)
  have k0 := C0.out.c0
  have k1 := C0.out.c1
  have k2 := C0.out.c2
  clear h1 h2
  go_enter Try.func24, Try.ntmps24
  go_wp2_with fail
  refine (spec_trFronted hn hm C0.out.r1 C0.out.r2).mono ?_; rintro e w1 hF
  clear k0 k1 k2
  rcases hF with ⟨hV, A1, c1, rfl, o1, hc1, hb1⟩ | ⟨hV, _⟩
  rotate_left
  · exact absurd h hV
  have HB := Lib.hid (C0.out.below.trans (hb1.mono C0.out.below.size))
  have HR := Lib.hid (o1.rd.row (Nat.le_refl _))
  have HV := Lib.hid h
  clear hb1 hV o1
  have hn40 := HV.out.n40
  have e0 : IntKind.i64.wrap ((n : Int) - 1) = (n : Int) - 1 := IntWalk.i64_in _ (by omega)
  by_cases hi : 0 ≤ i ∧ i < (n : Int)
  · obtain ⟨q, rfl⟩ : ∃ q : Nat, i = q := ⟨i.toNat, by omega⟩
    have HE := Lib.hid (atS_yes (S := frK K T) (n := n) (q := q) (by omega))
    obtain ⟨b, off, rfl, _, hcc⟩ := HR.out (by omega)
    have hx : w1.cell? ⟨b, off + q, none⟩ = some (.string (frK K T q)) := hcc q (by omega)
    have hq : q < n := by omega
    clear hcc
    go_wp2_with fail
    refine (l1In_yes _ _ _ _ (by omega) (by omega)).mono ?_; rintro e w' ⟨rfl, rfl⟩
    go_wp2_with fail
    go_ret2
    exact ⟨by rw [HE.out.1, HE.out.2]; rfl, HB.out⟩
  · have HI := Lib.hid hi
    clear hi
    go_wp2_with fail
    refine (l1In_no _ _ _ _ (by have := HI.out; omega)).mono ?_; rintro e w' ⟨rfl, rfl⟩
    go_wp2_with fail
    go_ret2
    exact ⟨by rw [(atS_no HI.out).1, (atS_no (S := frK K T) HI.out).2]; rfl, HB.out⟩

set_option maxRecDepth 100000 in
set_option maxHeartbeats 2000000 in
theorem spec_frontRank (x : ByteArray) (hn : n ≤ 1048576) (hm : m ≤ 1048576) (_hs : ∀ i, i < m → (T i).size ≤ 1048576) (h1 : IRow w A n K) (h2 : GRow w B m (strV T)) (h : FrV z n K m T) :
    Calls Try.prog 26 #[.agg #[.int .i64 z, .slice A n c, .slice B m d], .string x] w fun e w' => e = .returned (.tuple #[.int .i64 (rkS (frK K T) x n), .bool true]) ∧ Below w.heap.size w w' := by
  have C0 := Lib.hid (FL.start (z := z) (c := c) (d := d) h1 h2 26)
  have k0 := C0.out.c0
  have k1 := C0.out.c1
  have k2 := C0.out.c2
  clear h1 h2
  go_enter Try.func26, Try.ntmps26
  go_wp2_with fail
  refine (spec_trFronted hn hm C0.out.r1 C0.out.r2).mono ?_; rintro e w1 hF
  clear k0 k1 k2
  rcases hF with ⟨hV, A1, c1, rfl, o1, hc1, hb1⟩ | ⟨hV, _⟩
  rotate_left
  · exact absurd h hV
  have HB := Lib.hid (C0.out.below.trans (hb1.mono C0.out.below.size))
  have HR := Lib.hid (o1.rd.row (Nat.le_refl _))
  have HV := Lib.hid h
  clear hb1 hV o1
  go_wp2_with fail
  refine (spec_trRank (x := x) hn HR.out).mono ?_; rintro e w2 ⟨rfl, rfl⟩
  go_wp2_with fail
  go_ret2
  exact ⟨rfl, HB.out⟩

set_option maxRecDepth 100000 in
set_option maxHeartbeats 2000000 in
theorem spec_frontHas (x : ByteArray) (hn : n ≤ 1048576) (hm : m ≤ 1048576) (_hs : ∀ i, i < m → (T i).size ≤ 1048576) (h1 : IRow w A n K) (h2 : GRow w B m (strV T)) (h : FrV z n K m T) :
    Calls Try.prog 28 #[.agg #[.int .i64 z, .slice A n c, .slice B m d], .string x] w fun e w' => e = .returned (.tuple #[.bool (hasZ (frK K T) n x), .bool true]) ∧ Below w.heap.size w w' := by
  have C0 := Lib.hid (FL.start (z := z) (c := c) (d := d) h1 h2 26)
  have k0 := C0.out.c0
  have k1 := C0.out.c1
  have k2 := C0.out.c2
  clear h1 h2
  go_enter Try.func28, Try.ntmps28
  go_wp2_with fail
  refine (spec_trFronted hn hm C0.out.r1 C0.out.r2).mono ?_; rintro e w1 hF
  clear k0 k1 k2
  rcases hF with ⟨hV, A1, c1, rfl, o1, hc1, hb1⟩ | ⟨hV, _⟩
  rotate_left
  · exact absurd h hV
  have HB := Lib.hid (C0.out.below.trans (hb1.mono C0.out.below.size))
  have HR := Lib.hid (o1.rd.row (Nat.le_refl _))
  have HV := Lib.hid h
  clear hb1 hV o1
  go_wp2_with fail
  refine (spec_l1HasS (x := x) (r := hasZ (frK K T) n x) hasZ_iff hn HR.out).mono ?_; rintro e w2 ⟨rfl, rfl⟩
  go_wp2_with fail
  go_ret2
  exact ⟨rfl, HB.out⟩

set_option maxRecDepth 100000 in
set_option maxHeartbeats 2000000 in
theorem spec_frontBytes_no (hn : n ≤ 1048576) (hm : m ≤ 1048576) (hs : ∀ i, i < m → (T i).size ≤ 1048576) (h1 : IRow w A n K) (h2 : GRow w B m (strV T)) (h : ¬ FrV z n K m T) :
    Calls Try.prog 30 #[.agg #[.int .i64 z, .slice A n c, .slice B m d]] w fun e w' => e = .returned (.tuple #[.int .i64 0, .bool false]) ∧ Below w.heap.size w w' := by
  have C0 := Lib.hid (FL.start (z := z) (c := c) (d := d) h1 h2 26)
  have k0 := C0.out.c0
  have k1 := C0.out.c1
  have k2 := C0.out.c2
  clear h1 h2
  go_enter Try.func30, Try.ntmps30
  go_wp2_with fail
  refine (spec_isFront hn hm hs C0.out.r1 C0.out.r2).mono ?_; rintro e w1 ⟨rfl, hb1⟩
  have C1 := Lib.hid (C0.out.b hb1)
  clear hb1 k0 k1 k2
  rw [show frB z n K m T = false from by
      cases hh : frB z n K m T with
      | false => rfl
      | true => exact absurd (frB_iff.1 hh) h]
  go_wp2_with fail
  go_ret2
  exact ⟨rfl, C1.out.below⟩

set_option maxRecDepth 100000 in
set_option maxHeartbeats 2000000 in
theorem spec_frontBytes (hn : n ≤ 1048576) (hm : m ≤ 1048576) (hs : ∀ i, i < m → (T i).size ≤ 1048576) (h1 : IRow w A n K) (h2 : GRow w B m (strV T)) (h : FrV z n K m T) :
    Calls Try.prog 30 #[.agg #[.int .i64 z, .slice A n c, .slice B m d]] w fun e w' => e = .returned (.tuple #[.int .i64 ((n + sumS T m : Nat) : Int), .bool true]) ∧ Below w.heap.size w w' := by
  have C0 := Lib.hid (FL.start (z := z) (c := c) (d := d) h1 h2 26)
  have k0 := C0.out.c0
  have k1 := C0.out.c1
  have k2 := C0.out.c2
  clear h1 h2
  go_enter Try.func30, Try.ntmps30
  go_wp2_with fail
  refine (spec_isFront hn hm hs C0.out.r1 C0.out.r2).mono ?_; rintro e w1 ⟨rfl, hb1⟩
  have C1 := Lib.hid (C0.out.b hb1)
  clear hb1 k0 k1 k2
  rw [frB_iff.2 h]
  have k1 := C1.out.c1
  have k2 := C1.out.c2
  have HT := Lib.hid h.tsize
  have hn40 := h.n40
  have hm40 : m ≤ 40 := by have := h.2.2.1; omega
  clear h
  go_wp2_with fail
  go_loop [4, 16] (fun r i => ∃ q : Nat, q ≤ m ∧ i = .int .i64 q ∧ r = .int .i64 ((n + sumS T q : Nat) : Int)) (fun _ i => m - (intOf i).toNat)
  case atStart => exact ⟨0, Nat.zero_le _, rfl, by simp [sumS]⟩
  case round =>
    obtain ⟨q, hq, rfl, rfl⟩ := hrel
    by_cases hlt : q < m
    · obtain ⟨b, off, rfl, hbl, hcc⟩ := C1.out.r2 (by omega)
      have hx : w1.cell? ⟨b, off + q, none⟩ = some (.string (T q)) := hcc q hlt
      have hle := sumS_le HT.out q hq
      have hle2 := HT.out q hlt
      have HN := Lib.hid (show n + sumS T (q + 1) = n + sumS T q + (T q).size by rw [sumS]; omega)
      clear hcc
      go_wp2_with fail
      go_round
      case rel => exact ⟨q + 1, by omega, by go_num, by rw [HN.out]; go_num⟩
      case measure => simp [intOf]; omega
    · obtain rfl : q = m := by omega
      go_wp2_with fail
      go_ret2
      exact ⟨rfl, C1.out.below⟩

end
end Go.Proofs.Ythaipemgndahfaa
