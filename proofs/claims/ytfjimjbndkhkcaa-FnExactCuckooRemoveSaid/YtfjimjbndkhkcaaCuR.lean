/- CuckooRemove: both sides. -/
import Derived.Test.YtfjimjbndkhkcaaCuD
import Derived.Test.YtfjimjbndkhkcaaCuF
import Derived.Test.YtfjimjbndkhkcaaSrtD
namespace Go.Proofs.Ytfjimjbndkhkcaa
open Go.RowKit

def dropR (S : Nat → ByteArray) (i t : Nat) : ByteArray := if t < i then S t else S (t + 1)
theorem dropR_ls (S : Nat → ByteArray) {i n : Nat} (hi : i < n) : lsOf (dropR S i) (n - 1) = (lsOf S n).take i ++ (lsOf S n).drop (i + 1) := by
  have e1 : lsOf S n = lsOf S i ++ ([(S i).data.toList] ++ lsOf (fun t => S (i + 1 + t)) (n - 1 - i)) := by
    rw [show n = i + (1 + (n - 1 - i)) by omega, lsOf_add, lsOf_add]
    congr 1
    have h1 : lsOf (fun t => S (i + t)) 1 = [(S i).data.toList] := by simp [lsOf]
    rw [h1, show i + (1 + (n - 1 - i)) - 1 - i = n - 1 - i by omega]
    congr 1
    exact lsOf_congr (fun t _ => by rw [Nat.add_assoc])
  have e2 : lsOf (dropR S i) (n - 1) = lsOf S i ++ lsOf (fun t => S (i + 1 + t)) (n - 1 - i) := by
    rw [show n - 1 = i + (n - 1 - i) by omega, lsOf_add]
    congr 1
    · exact lsOf_congr (fun t ht => by unfold dropR; rw [if_pos ht])
    · rw [show i + (n - 1 - i) - i = n - 1 - i by omega]
      exact lsOf_congr (fun t _ => by unfold dropR; rw [if_neg (by omega), show i + t + 1 = i + 1 + t by omega])
  rw [e2, e1]
  have hl : (lsOf S i).length = i := lsOf_len S i
  rw [List.take_append_of_le_length (by omega), List.take_of_length_le (by omega)]
  congr 1
  rw [← List.append_assoc, List.drop_append_of_le_length (by simp [hl]), List.drop_of_length_le (by simp [hl]), List.nil_append]
theorem del_str (B g n c i : Nat) (S : Nat → ByteArray) (w : World) (hn : n ≤ 1048576) (hi : i < n) (hO : w.ownsRow B 9 1 (.slice (some ⟨g, 0, none⟩) n c) n (vals (strV S) n)) :
    Calls Try.prog 79 #[.slice (some ⟨g, 0, none⟩) n c, .int .i64 (i : Int), .int .i64 ((i : Int) + 1)] w fun e w' => e = .returned (.slice (some ⟨g, 0, none⟩) (n - 1) c) ∧
      w'.ownsRow B 9 1 (.slice (some ⟨g, 0, none⟩) (n - 1) c) (n - 1) (vals (strV (dropR S i)) (n - 1)) ∧ w.grownBy w' (some g) := by
  rw [vals_enc] at hO
  rcases hO.2 with ⟨h0, _⟩ | ⟨g', cap, cur, hv, hbase, hb, h1, h2, h3, h4⟩
  · cases h0
  cases hv
  have hl := lsOf_len S n
  have hs := Any.slices_Delete_string (P := Try.prog) laysDe g 0 c i (i + 1) (lsOf S n) w (holds_of_block hb (by rw [hl]; simpa using h4)) (by rw [hl]; exact h1) (by unfold maxLen at h2; omega) (by omega) (by rw [hl]; omega)
  rw [hl, show i + 1 - i = 1 by omega] at hs
  refine (show Calls Try.prog 79 _ _ _ from hs).mono ?_
  rintro e w' ⟨rfl, q, rfl⟩
  have hk : ((lsOf S n).take i ++ (lsOf S n).drop (i + 1)).length = n - 1 := by simp [hl]; omega
  refine ⟨rfl, ?_, ?_⟩
  · have ho := Lib.ownsRow_putRow (q := q) (k := n - 1) (ys := (lsOf S n).take i ++ (lsOf S n).drop (i + 1) ++ List.replicate 1 []) hO (by rw [List.length_append, hk]; simp; omega) (by omega)
    rw [vals_enc, dropR_ls S hi]
    generalize (lsOf S n).take i ++ (lsOf S n).drop (i + 1) = Y at *
    rw [List.take_append_of_le_length (by omega), List.take_of_length_le (by omega)] at ho
    exact ho
  · have h := grownBy_sorted (w := w) (g := g) (n := q) (os := #[]) ((lsOf S n).take i ++ (lsOf S n).drop (i + 1) ++ List.replicate 1 []).toArray
    rw [Sort.grow_empty] at h
    exact h
/-- The stash without a key. -/
def remL (H : Nat → ByteArray) (x : ByteArray) : Nat → List ByteArray
  | 0 => []
  | k + 1 => if H k = x then remL H x k else remL H x k ++ [H k]
def remS (S : Nat → ByteArray) (x : ByteArray) (k j : Nat) : ByteArray := if j < k ∧ S j = x then ⟨#[]⟩ else S j
theorem remL_len (H : Nat → ByteArray) (x : ByteArray) : ∀ k, (remL H x k).length ≤ k
  | 0 => Nat.le_refl _
  | k + 1 => by
    have := remL_len H x k
    rw [remL]; split
    · omega
    · simp; omega
theorem remL_none {H : Nat → ByteArray} {x : ByteArray} : ∀ {k}, (∀ j, j < k → H j ≠ x) → (remL H x k).length = k ∧ ∀ t, t < k → rowB (remL H x k) t = H t
  | 0, _ => ⟨rfl, fun t ht => absurd ht (Nat.not_lt_zero _)⟩
  | k + 1, h => by
    obtain ⟨h1, h2⟩ := remL_none (k := k) (fun j hj => h j (by omega))
    rw [remL, if_neg (h k (by omega))]
    refine ⟨by simp [h1], fun t ht => ?_⟩
    by_cases e : t = k
    · have := rowB_new (remL H x k) (H k)
      rw [h1] at this
      rw [e, this]
    · rw [rowB_old _ _ _ (by omega)]; exact h2 t (by omega)
theorem remL_one {H : Nat → ByteArray} {x : ByteArray} {i : Nat} (hx : H i = x) : ∀ {k}, i < k → (∀ j, j < k → j ≠ i → H j ≠ x) → (remL H x k).length = k - 1 ∧ ∀ t, t < k - 1 → rowB (remL H x k) t = dropR H i t
  | 0, h, _ => absurd h (Nat.not_lt_zero _)
  | k + 1, hi, h => by
    by_cases e : i = k
    · subst e
      rw [remL, if_pos hx]
      obtain ⟨h1, h2⟩ := remL_none (H := H) (x := x) (k := i) (fun j hj => h j (by omega) (by omega))
      refine ⟨by omega, fun t ht => ?_⟩
      rw [h2 t (by omega)]; unfold dropR; rw [if_pos (by omega)]
    · obtain ⟨h1, h2⟩ := remL_one hx (k := k) (by omega) (fun j hj hne => h j (by omega) hne)
      rw [remL, if_neg (h k (by omega) (by omega))]
      refine ⟨by simp [h1]; omega, fun t ht => ?_⟩
      by_cases e2 : t = k - 1
      · have := rowB_new (remL H x k) (H k)
        rw [h1] at this
        rw [e2, this]; unfold dropR; rw [if_neg (by omega), show k - 1 + 1 = k by omega]
      · rw [rowB_old _ _ _ (by omega)]; exact h2 t (by omega)
section
variable (z : Int) (A : Option Addr) (n c : Nat) (S : Nat → ByteArray) (B : Option Addr) (m d : Nat) (H : Nat → ByteArray) (x : ByteArray) (w : World)
set_option maxRecDepth 100000 in
set_option maxHeartbeats 2000000 in
theorem impl_remove_no (FN : ∀ (A : Option Addr) (c : Nat) (B : Option Addr) (d : Nat) (W : World), GRow W A n (strV S) → GRow W B m (strV H) → Calls Try.prog 40 #[.agg #[.int .i64 z, .slice A n c, .slice B m d], .string x] W (NoFind W)) (h1 : GRow w A n (strV S)) (h2 : GRow w B m (strV H)) :
    Calls Try.prog 42 #[.agg #[.int .i64 z, .slice A n c, .slice B m d], .string x] w (CuNo w) := by
  have HI := Lib.hid FN
  have C0 := CL.start (z := z) (c := c) (d := d) h1 h2 36
  have C1 := Lib.hid (C0.b ((Below.refl _ _).alloc (Nat.le_refl _) (.cells #[.int .i64 0, .slice none 0 0, .slice none 0 0] 36)))
  have N1 := Lib.hid (nbx0 (w.alloc (.cells #[.int .i64 z, .slice A n c, .slice B m d] 36)) #[.int .i64 0, .slice none 0 0, .slice none 0 0] 36)
  have hsz : (w.alloc (.cells #[.int .i64 z, .slice A n c, .slice B m d] 36)).heap.size = w.heap.size + 1 := by simp
  rw [hsz] at N1
  clear FN h1 h2 C0 hsz
  go_enter Try.func42, Try.ntmps42
  go_wp2_with fail
  refine (HI.out A c B d _ C1.out.r1 C1.out.r2).mono ?_; rintro e w2 ⟨rfl, hb⟩
  have N2 := Lib.hid (N1.out.b hb)
  have HB := Lib.hid (C1.out.b hb).below
  clear hb
  have x0 := N2.out.cell 0 _ rfl
  have x1 := N2.out.cell 1 _ rfl
  have x2 := N2.out.cell 2 _ rfl
  have f0 := N2.out.free 0
  have f1 := N2.out.free 1
  have f2 := N2.out.free 2
  go_wp2_with fail
  refine bodyPost_ret (v := .tuple #[.agg #[.int .i64 0, .slice none 0 0, .slice none 0 0], .bool false]) (by simp [results, Try.results42, go_sem, x0, x1, x2]) rfl ?_
  exact ⟨rfl, ((HB.out.setCell (p := ⟨w.heap.size + 1, 0, none⟩) (by show _ ≤ w.heap.size + 1; omega) _).setCell (p := ⟨w.heap.size + 1, 1, none⟩) (by show _ ≤ w.heap.size + 1; omega) _).setCell (p := ⟨w.heap.size + 1, 2, none⟩) (by show _ ≤ w.heap.size + 1; omega) _⟩
theorem two_co {W0 w2 w3 : World} {rb : Nat} {z : Int} {A B : Option Addr} {n c m d : Nat} {S H : Nat → ByteArray} (hb : Below W0.heap.size W0 w2) (hres : NBX W0.heap.size rb #[.int .i64 0, .slice none 0 0, .slice none 0 0] 36 w2) (ht : Two w2 A n c S B m d H w3) (hn : 1 ≤ n) :
    ∃ g, A = some ⟨g, 0, none⟩ ∧ CO W0 rb #[.int .i64 0, .slice none 0 0, .slice none 0 0] w3.heap.size z g c n S B d m H (w3.alloc (.cells #[.int .i64 z, .slice A n c, .slice B m d] 36)) := by
  have hle := hb.size
  rcases owned_vec ht.o1 with h0 | ⟨g, rfl, hg, ho⟩
  · omega
  · have hal := (Below.refl w3.heap.size w3).alloc (Nat.le_refl _) (.cells #[.int .i64 z, .slice (some ⟨g, 0, none⟩) n c, .slice B m d] 36)
    refine ⟨g, rfl, hb.trans ((ht.below.trans (hal.mono ht.below.size)).mono hle), (hres.b ht.below).b hal, mk_low (Nat.le_trans hle ht.below.size) (nbx0 w3 _ _), ho.b hal, Nat.le_trans hle hg, owned_b (owned_low ht.o2 hle) hal, ?_, ht.ne g rfl⟩
    have h1 := hres.lt
    have h2 := ht.below.size
    omega
/-- Slots and stash behind the removal of the string that stands at i. -/
def rmS (S : Nat → ByteArray) (n i : Nat) : Nat → ByteArray := if i < n then updC S i ⟨#[]⟩ else S
def rmH (H : Nat → ByteArray) (n i : Nat) : Nat → ByteArray := if i < n then H else dropR H (i - n)
def rmM (n m i : Nat) : Nat := if i < n then m else m - 1
set_option maxRecDepth 100000 in
set_option maxHeartbeats 4000000 in
theorem impl_remove (i : Nat) (hi : i < n + m) (hn1 : 1 ≤ n) (hn : n ≤ 64) (hm : m ≤ 4) (FN : ∀ (A : Option Addr) (c : Nat) (B : Option Addr) (d : Nat) (W : World), GRow W A n (strV S) → GRow W B m (strV H) → Calls Try.prog 40 #[.agg #[.int .i64 z, .slice A n c, .slice B m d], .string x] W fun e w' => e = .returned (.tuple #[.int .i64 i, .bool true]) ∧ Below W.heap.size W w') (h1 : GRow w A n (strV S)) (h2 : GRow w B m (strV H)) :
    Calls Try.prog 42 #[.agg #[.int .i64 z, .slice A n c, .slice B m d], .string x] w (CuAns z n (rmS S n i) (rmM n m i) (rmH H n i) w) := by
  have HI := Lib.hid FN
  have C0 := CL.start (z := z) (c := c) (d := d) h1 h2 36
  have HCL := Lib.hid (fun W (hb : Below (w.alloc (.cells #[.int .i64 z, .slice A n c, .slice B m d] 36)).heap.size (w.alloc (.cells #[.int .i64 z, .slice A n c, .slice B m d] 36)) W) => C0.b hb)
  have N1 := Lib.hid (nbx0 (w.alloc (.cells #[.int .i64 z, .slice A n c, .slice B m d] 36)) #[.int .i64 0, .slice none 0 0, .slice none 0 0] 36)
  have hsz : (w.alloc (.cells #[.int .i64 z, .slice A n c, .slice B m d] 36)).heap.size = w.heap.size + 1 := by simp
  have HB0 := Lib.hid ((Below.refl w.heap.size w).alloc (Nat.le_refl _) (.cells #[.int .i64 z, .slice A n c, .slice B m d] 36))
  have HSZ := Lib.hid hsz
  clear FN h1 h2 C0 hsz
  go_enter Try.func42, Try.ntmps42
  go_wp2_with fail
  generalize hW0 : w.alloc (.cells #[.int .i64 z, .slice A n c, .slice B m d] 36) = W0 at *
  clear hW0
  have N1' := Lib.hid (HSZ.out ▸ N1.out : NBX W0.heap.size (w.heap.size + 1) #[.int .i64 0, .slice none 0 0, .slice none 0 0] 36 (W0.alloc (.cells #[.int .i64 0, .slice none 0 0, .slice none 0 0] 36)))
  have hb1 := (Below.refl W0.heap.size W0).alloc (Nat.le_refl _) (.cells #[.int .i64 0, .slice none 0 0, .slice none 0 0] 36)
  have C1 := HCL.out _ hb1
  refine (HI.out A c B d _ C1.r1 C1.r2).mono ?_; rintro e w2 ⟨rfl, hb⟩
  have N2 := Lib.hid (N1'.out.b hb)
  have HB2 := Lib.hid (hb1.trans (hb.mono hb1.size))
  clear hb hb1 C1 N1 N1'
  have C2 := Lib.hid (HCL.out _ HB2.out)
  have k0 := C2.out.c0
  have k1 := C2.out.c1
  have k2 := C2.out.c2
  go_wp2_with fail
  refine (impl_clone z A n c S B m d H w2 (by omega) (by omega) C2.out.r1 C2.out.r2).mono ?_; rintro e w3 ⟨A3, c3, B3, d3, rfl, ht⟩
  obtain ⟨g, rfl, hco⟩ := two_co (z := z) HB2.out N2.out ht hn1
  have HC := Lib.hid hco
  clear hco ht k0 k1 k2
  have x0 := HC.out.box.cell 0 _ rfl
  have x1 := HC.out.box.cell 1 _ rfl
  have x2 := HC.out.box.cell 2 _ rfl
  have f2 := HC.out.box.free 2
  have FIN := Lib.hid (show ∀ (S' : Nat → ByteArray) (B' : Option Addr) (d' m' : Nat) (H' : Nat → ByteArray) (q c' : Nat) (wr : World), CO W0 (w.heap.size + 1) #[.int .i64 0, .slice none 0 0, .slice none 0 0] q z g c' n S' B' d' m' H' wr → CuAns z n S' m' H' w (.returned (.tuple #[.agg #[.int .i64 z, .slice (some ⟨g, 0, none⟩) n c', .slice B' m' d'], .bool true])) (((wr.setCell ⟨w.heap.size + 1, 0, none⟩ (.int .i64 z)).setCell ⟨w.heap.size + 1, 1, none⟩ (.slice (some ⟨g, 0, none⟩) n c')).setCell ⟨w.heap.size + 1, 2, none⟩ (.slice B' m' d')) from fun S' B' d' m' H' q c' wr hco => by
    have hF := ((hco.resSet 0 (.int .i64 z)).resSet 1 (.slice (some ⟨g, 0, none⟩) n c')).resSet 2 (.slice B' m' d')
    obtain ⟨o1, o2, o3⟩ := hF.fin
    have hle0 : w.heap.size ≤ W0.heap.size := by have := HSZ.out; omega
    exact ⟨_, _, _, _, rfl, o1.mono hle0 (Nat.le_refl _), o2.mono hle0 (Nat.le_refl _), o3, (HB0.out).trans (hF.below.mono hle0)⟩)
  by_cases hin : i < n
  · have s0 := HC.out.out.cell hin
    have sf := HC.out.out.frozen i
    unfold strV at s0
    have HC2 := Lib.hid (HC.out.slot i ⟨#[]⟩)
    have r0 := HC2.out.res.cell 0 _ rfl
    have r1 := HC2.out.res.cell 1 _ rfl
    have r2 := HC2.out.res.cell 2 _ rfl
    have rf0 := HC2.out.res.free 0
    have rf1 := HC2.out.res.free 1
    have rf2 := HC2.out.res.free 2
    have y0 := HC2.out.box.cell 0 _ rfl
    have y1 := HC2.out.box.cell 1 _ rfl
    have y2 := HC2.out.box.cell 2 _ rfl
    have HE := Lib.hid (show rmS S n i = updC S i ⟨#[]⟩ ∧ rmM n m i = m ∧ rmH H n i = H by unfold rmS rmM rmH; simp [hin])
    generalize hwx : w3.alloc (.cells #[.int .i64 z, .slice (some ⟨g, 0, none⟩) n c3, .slice B3 m d3] 36) = w4 at *
    go_wp2_with fail
    refine bodyPost_ret (v := .tuple #[.agg #[.int .i64 z, .slice (some ⟨g, 0, none⟩) n c3, .slice B3 m d3], .bool true]) (by simp [results, Try.results42, go_sem, r0, r1, r2]) rfl ?_
    rw [HE.out.1, HE.out.2.1, HE.out.2.2]
    exact FIN.out _ _ _ _ _ _ _ _ HC2.out
  · obtain ⟨k, rfl⟩ : ∃ k, i = n + k := ⟨i - n, by omega⟩
    have HE := Lib.hid (show rmS S n (n + k) = S ∧ rmM n m (n + k) = m - 1 ∧ rmH H n (n + k) = dropR H k by unfold rmS rmM rmH; simp [show ¬ (n + k < n) by omega])
    have hkm : k < m := by omega
    obtain ⟨g2, rfl⟩ : ∃ g2, B3 = some ⟨g2, 0, none⟩ := by
      rcases owned_vec HC.out.st with h0 | ⟨g2, rfl, _, _⟩
      · omega
      · exact ⟨g2, rfl⟩
    have d1 : decide ((n : Int) + (k : Int) < (n : Int)) = false := by simp; omega
    have d2 : decide (n + k < n) = false := by simp
    have e1 : IntKind.i64.wrap ((n : Int) + (k : Int) - (n : Int)) = (k : Int) := by rw [show (n : Int) + (k : Int) - (n : Int) = (k : Int) by omega]; exact IntWalk.i64_in _ (by omega)
    go_wp2_with fail
    refine (del_str W0.heap.size g2 m d3 k H _ (by omega) hkm HC.out.st).mono ?_; rintro e w5 ⟨rfl, ho5, hg5⟩
    have HC2 := Lib.hid (HC.out.turn (B' := some ⟨g2, 0, none⟩) (d' := d3) (m' := m - 1) (H' := dropR H k) hg5 ho5 HC.out.ap)
    have HX5 := Lib.hid (show NBX W0.heap.size w3.heap.size #[.int .i64 z, .slice (some ⟨g, 0, none⟩) n c3, .slice (some ⟨g2, 0, none⟩) m d3] 36 w5 from ⟨(hg5.block w3.heap.size HC.out.box.lt (fun e => nbx_ne_row HC.out.box HC.out.st e.symm)).trans HC.out.box.blk, HC.out.box.ge⟩)
    clear x0 x1 x2 f2 ho5 hg5
    have x0 := HX5.out.cell 0 _ rfl
    have x1 := HX5.out.cell 1 _ rfl
    have x2 := HX5.out.cell 2 _ rfl
    have f2 := HX5.out.free 2
    have r0 := HC2.out.res.cell 0 _ rfl
    have r1 := HC2.out.res.cell 1 _ rfl
    have r2 := HC2.out.res.cell 2 _ rfl
    have rf0 := HC2.out.res.free 0
    have rf1 := HC2.out.res.free 1
    have rf2 := HC2.out.res.free 2
    have hqr := HC2.out.ne
    go_wp2_with fail
    refine bodyPost_ret (v := .tuple #[.agg #[.int .i64 z, .slice (some ⟨g, 0, none⟩) n c3, .slice (some ⟨g2, 0, none⟩) (m - 1) d3], .bool true]) (by simp [results, Try.results42, go_sem, r0, r1, r2]) rfl ?_
    rw [HE.out.1, HE.out.2.1, HE.out.2.2]
    exact FIN.out _ _ _ _ _ _ _ _ HC2.out
end
end Go.Proofs.Ytfjimjbndkhkcaa
