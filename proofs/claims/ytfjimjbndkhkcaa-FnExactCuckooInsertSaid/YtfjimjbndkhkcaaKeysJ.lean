/- The program's keysIn. -/
import Derived.Test.YtfjimjbndkhkcaaKeysI
namespace Go.Proofs.Ytfjimjbndkhkcaa
open Go.RowKit

set_option maxRecDepth 100000 in
set_option maxHeartbeats 400000 in
theorem impl_keysIn (z : Int) (A : Option Addr) (n c : Nat) (S : Nat → ByteArray) (B : Option Addr) (m d : Nat) (H : Nat → ByteArray) (w : World) (h0 : 0 < n) (hn : n ≤ 2048) (hm : m ≤ 2048) (h1 : GRow w A n (strV S)) (h2 : GRow w B m (strV H)) :
    Calls Try.prog 70 #[.agg #[.int .i64 z, .slice A n c, .slice B m d]] w (OwnLs (keptL S n H m) w) := by
  have C0 := Lib.hid (CL.start (z := z) (c := c) (d := d) h1 h2 36)
  clear h1 h2
  have k1 := C0.out.c1
  have k2 := C0.out.c2
  have hs1 := C0.out.size
  have C1 := Lib.hid (C0.out.b ((Below.refl _ _).alloc (Nat.le_refl _) (.cells #[.slice A n c, .slice B m d] 25)))
  have HX := Lib.hid (boxed_at (w.alloc (.cells #[.int .i64 z, .slice A n c, .slice B m d] 36)) (w.heap.size + 1) (by simp) #[.slice A n c, .slice B m d] 25)
  have x1 := HX.out.now 0 _ rfl
  have x2 := HX.out.now 1 _ rfl
  have hs2 := C1.out.size
  go_enter Try.func70, Try.ntmps70
  go_wp2_with fail
  refine (concat_strs (w.heap.size + 1) A n c S B m d H _ (by omega) hn hm HX.out.top C1.out.r1 C1.out.r2 x1 x2).mono ?_; rintro e w3 ⟨A3, g3, rfl, ho3, hb3⟩
  have HB3 := Lib.hid (C1.out.below.trans (hb3.mono C1.out.below.size))
  have HO3 := Lib.hid (owned_low ho3 C1.out.below.size)
  clear ho3 hb3 x1 x2 k1 k2 HX C1 C0
  obtain ⟨g, rfl, hbase⟩ : ∃ g, A3 = some ⟨g, 0, none⟩ ∧ w.heap.size ≤ g := by
    rcases (HO3.out).2 with ⟨hv, h00⟩ | ⟨g, cap, cur, hv, hbase, _⟩
    · omega
    · injection hv with hv1 hv2 hv3
      exact ⟨g, hv1, hbase⟩
  go_wp2_with fail
  refine (sort_strs w.heap.size g (n + m) g3 (catS S H n) w3 (by omega) HO3.out).mono ?_; rintro e w4 ⟨rfl, ho4, hg4⟩
  have HO4 := Lib.hid ho4
  have HB4 := Lib.hid (HB3.out.grown hg4 HB3.out.size (fun k hk => by cases hk; exact hbase))
  have hL := lsOf_len (catS S H n) (n + m)
  have HE := Lib.hid (show fullS (lsOf (rowS (sortS (lsOf (catS S H n) (n + m)))) (n + m)) = keptL S n H m by
    unfold keptL keepS
    rw [← catS_ls]
    have h := rowS_ls (sortS (lsOf (catS S H n) (n + m)))
    rw [len_sortS, hL] at h
    rw [h]; rfl)
  clear ho4 hg4 hL
  go_wp2_with fail
  refine (drop_strs w.heap.size g (n + m) g3 _ w4 (by omega) HO4.out).mono ?_; rintro e w5 ⟨rfl, ho5, hg5⟩
  rw [HE.out] at ho5
  have HO5 := Lib.hid ho5
  have HB5 := Lib.hid (HB4.out.grown hg5 HB4.out.size (fun k hk => by cases hk; exact hbase))
  clear ho5 hg5
  go_wp2_with fail
  go_ret
  exact ⟨some ⟨g, 0, none⟩, g3, by rw [HE.out]; rfl, HO5.out, HB5.out⟩
end Go.Proofs.Ytfjimjbndkhkcaa
