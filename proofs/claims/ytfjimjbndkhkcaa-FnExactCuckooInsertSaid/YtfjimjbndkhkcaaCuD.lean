/- A copy of a cuckoo table: both sides. -/
import Derived.Test.YtfjimjbndkhkcaaCuU
import Derived.Deep.RegionHeld3
namespace Go.Proofs.Ytfjimjbndkhkcaa
open Go.RowKit

/-- Two rows of the call's own, apart. -/
structure Two (w1 : World) (A : Option Addr) (n c : Nat) (S : Nat → ByteArray) (B : Option Addr) (m d : Nat) (H : Nat → ByteArray) (w' : World) : Prop where
  below : Below w1.heap.size w1 w'
  o1 : w'.ownsRow w1.heap.size 9 1 (.slice A n c) n (vals (strV S) n)
  o2 : w'.ownsRow w1.heap.size 9 1 (.slice B m d) m (vals (strV H) m)
  ne : ∀ g, (Value.slice A n c).ownBlock = some g → (Value.slice B m d).ownBlock ≠ some g
theorem two_ab {w1 w3 w4 : World} {A B : Option Addr} {n c m d : Nat} {S H : Nat → ByteArray} (h3 : Below w1.heap.size w1 w3) (o3 : w3.ownsRow w1.heap.size 9 1 (.slice A n c) n (vals (strV S) n)) (h4 : Below w3.heap.size w3 w4) (o4 : w4.ownsRow w3.heap.size 9 1 (.slice B m d) m (vals (strV H) m)) : Two w1 A n c S B m d H w4 :=
  ⟨h3.trans (h4.mono h3.size), owned_b o3 h4, owned_low o4 h3.size, fun g hg hh => by
    have := (o3.lt g hg).2
    have := (o4.lt g hh).1
    omega⟩
theorem two_ba {w1 w3 w4 : World} {A B : Option Addr} {n c m d : Nat} {S H : Nat → ByteArray} (h3 : Below w1.heap.size w1 w3) (o3 : w3.ownsRow w1.heap.size 9 1 (.slice B m d) m (vals (strV H) m)) (h4 : Below w3.heap.size w3 w4) (o4 : w4.ownsRow w3.heap.size 9 1 (.slice A n c) n (vals (strV S) n)) : Two w1 A n c S B m d H w4 :=
  ⟨h3.trans (h4.mono h3.size), owned_low o4 h3.size, owned_b o3 h4, fun g hg hh => by
    have := (o3.lt g hh).2
    have := (o4.lt g hg).1
    omega⟩
/-- A copy of a table. -/
def CopyIs (z : Int) (n : Nat) (S : Nat → ByteArray) (m : Nat) (H : Nat → ByteArray) (w : World) (e : Ending) (w' : World) : Prop :=
  ∃ A c B d, e = .returned (.agg #[.int .i64 z, .slice A n c, .slice B m d]) ∧ Two w A n c S B m d H w'
section
variable (z : Int) (A : Option Addr) (n c : Nat) (S : Nat → ByteArray) (B : Option Addr) (m d : Nat) (H : Nat → ByteArray) (w : World)
set_option maxRecDepth 100000 in
set_option maxHeartbeats 4000000 in
theorem impl_clone (hn : n ≤ 1048576) (hm : m ≤ 1048576) (h1 : GRow w A n (strV S)) (h2 : GRow w B m (strV H)) :
    Calls Try.prog 78 #[.agg #[.int .i64 z, .slice A n c, .slice B m d]] w (CopyIs z n S m H w) := by
  have C0 := CL.start (z := z) (c := c) (d := d) h1 h2 36
  have hal := (Below.refl (w.alloc (.cells #[.int .i64 z, .slice A n c, .slice B m d] 36)).heap.size (w.alloc (.cells #[.int .i64 z, .slice A n c, .slice B m d] 36))).alloc (Nat.le_refl _) (.cells #[.int .i64 0, .slice none 0 0, .slice none 0 0] 36)
  have C1 := Lib.hid (C0.b hal)
  have hsz : (w.alloc (.cells #[.int .i64 z, .slice A n c, .slice B m d] 36)).heap.size = w.heap.size + 1 := by simp
  have N1 := Lib.hid (mk_base hsz.symm (nbx0 (w.alloc (.cells #[.int .i64 z, .slice A n c, .slice B m d] 36)) #[.int .i64 0, .slice none 0 0, .slice none 0 0] 36))
  have hs1 : ((w.alloc (.cells #[.int .i64 z, .slice A n c, .slice B m d] 36)).alloc (.cells #[.int .i64 0, .slice none 0 0, .slice none 0 0] 36)).heap.size = w.heap.size + 1 + 1 := by simp
  rw [hsz] at N1
  clear hal C0 h1 h2 hsz
  go_enter Try.func78, Try.ntmps78
  go_wp2_with fail
  generalize hw1 : (w.alloc (.cells #[.int .i64 z, .slice A n c, .slice B m d] 36)).alloc (.cells #[.int .i64 0, .slice none 0 0, .slice none 0 0] 36) = w1 at *
  clear hw1
  have k0 := C1.out.c0
  have k1 := C1.out.c1
  have k2 := C1.out.c2
  have HK := Lib.hid (show ∀ W, Below (w.heap.size + 1) w1 W → W.cell? ⟨w.heap.size, 0, none⟩ = some (.int .i64 z) ∧ W.cell? ⟨w.heap.size, 1, none⟩ = some (.slice A n c) ∧ W.cell? ⟨w.heap.size, 2, none⟩ = some (.slice B m d) from fun W hW => ⟨(hW.cell (p := ⟨w.heap.size, 0, none⟩) (show w.heap.size < _ by omega)).trans C1.out.c0, (hW.cell (p := ⟨w.heap.size, 1, none⟩) (show w.heap.size < _ by omega)).trans C1.out.c1, (hW.cell (p := ⟨w.heap.size, 2, none⟩) (show w.heap.size < _ by omega)).trans C1.out.c2⟩)
  have HBW := C1.out.below
  have hle1 : w.heap.size + 1 ≤ w1.heap.size := by omega
  go_region_held3 (fun W => W.cell? ⟨w.heap.size, 0, none⟩ = some (.int .i64 z) ∧ W.cell? ⟨w.heap.size, 1, none⟩ = some (.slice A n c) ∧ W.cell? ⟨w.heap.size, 2, none⟩ = some (.slice B m d))
    (first | with_reducible exact HK.out _ (PP.out.below.mono hle1) | with_reducible exact HK.out _ (hb3.mono hle1) | exact HK.out _ ⟨rfl, rfl, rfl, Nat.le_refl _, fun _ _ => rfl⟩ | with_reducible exact HK.out _ HST.out | (go_keep; done))
    (first
      | (have hz := OA; clear hz; go_at_call 81; (first | refine (clone_strs B m d H _ hm (C1.out.b hb3).r2).mono ?_ | refine (clone_strs B m d H _ hm (C1.out.b hb3).r2.drew).mono ?_); rintro e w4 ⟨B3, d3, rfl, ho4, hb4'⟩; have hb4 := hb4'; have PP := Lib.hid (two_ab hb3 OA.out hb4 ho4); have NB := N1.out.b (PP.out.below); have x0 := NB.cell 0 _ rfl; have x1 := NB.cell 1 _ rfl; have x2 := NB.cell 2 _ rfl; have f0 := NB.free 0; have f1 := NB.free 1; have f2 := NB.free 2; clear ho4 hb4 hb4')
      | (have hz := OB; clear hz; go_at_call 81; (first | refine (clone_strs A n c S _ hn (C1.out.b hb3).r1).mono ?_ | refine (clone_strs A n c S _ hn (C1.out.b hb3).r1.drew).mono ?_); rintro e w4 ⟨A3, c3, rfl, ho4, hb4'⟩; have hb4 := hb4'; have PP := Lib.hid (two_ba hb3 OB.out hb4 ho4); have NB := N1.out.b (PP.out.below); have x0 := NB.cell 0 _ rfl; have x1 := NB.cell 1 _ rfl; have x2 := NB.cell 2 _ rfl; have f0 := NB.free 0; have f1 := NB.free 1; have f2 := NB.free 2; clear ho4 hb4 hb4')
      | (go_at_call 81; refine (clone_strs A n c S _ hn C1.out.r1.drew).mono ?_; rintro e w3 ⟨A3, c3, rfl, ho3, hb3'⟩; have hb3 := of_drew hb3'; have OA := Lib.hid (show w3.ownsRow w1.heap.size 9 1 (.slice A3 n c3) n (vals (strV S) n) from ho3); clear ho3 hb3')
      | (go_at_call 81; refine (clone_strs B m d H _ hm C1.out.r2.drew).mono ?_; rintro e w3 ⟨B3, d3, rfl, ho3, hb3'⟩; have hb3 := of_drew hb3'; have OB := Lib.hid (show w3.ownsRow w1.heap.size 9 1 (.slice B3 m d3) m (vals (strV H) m) from ho3); clear ho3 hb3'))
  all_goals
    have hw1le : w.heap.size ≤ w1.heap.size := by omega
    have hl0 : w.heap.size ≤ w.heap.size + 1 := by omega
    have r1 := own_far (own_far (own_far (owned_low PP.out.o1 hw1le) (nbx_ne_row NB PP.out.o1) 0 (.int .i64 z)) (nbx_ne_row NB PP.out.o1) 1 (.slice A3 n c3)) (nbx_ne_row NB PP.out.o1) 2 (.slice B3 m d3)
    have r2 := own_far (own_far (own_far (owned_low PP.out.o2 hw1le) (nbx_ne_row NB PP.out.o2) 0 (.int .i64 z)) (nbx_ne_row NB PP.out.o2) 1 (.slice A3 n c3)) (nbx_ne_row NB PP.out.o2) 2 (.slice B3 m d3)
    have bb := (((HBW.trans (PP.out.below.mono hw1le)).setCell (p := ⟨w.heap.size + 1, 0, none⟩) hl0 (.int .i64 z)).setCell (p := ⟨w.heap.size + 1, 1, none⟩) hl0 (.slice A3 n c3)).setCell (p := ⟨w.heap.size + 1, 2, none⟩) hl0 (.slice B3 m d3)
    have TT := Lib.hid (Two.mk bb r1 r2 PP.out.ne)
    clear r1 r2 bb
    go_wp2_with fail
    refine bodyPost_ret (v := .agg #[.int .i64 z, .slice A3 n c3, .slice B3 m d3]) (by simp [results, Try.results78, go_sem, x0, x1, x2]) rfl ?_
    exact ⟨A3, c3, B3, d3, rfl, TT.out⟩
set_option maxRecDepth 100000 in
set_option maxHeartbeats 4000000 in
theorem spec_own (hn : n ≤ 1048576) (hm : m ≤ 1048576) (h1 : GRow w A n (strV S)) (h2 : GRow w B m (strV H)) :
    Calls Try.prog 85 #[.agg #[.int .i64 z, .slice A n c, .slice B m d]] w (CopyIs z n S m H w) := by
  have C0 := CL.start (z := z) (c := c) (d := d) h1 h2 36
  have hal := (Below.refl (w.alloc (.cells #[.int .i64 z, .slice A n c, .slice B m d] 36)).heap.size (w.alloc (.cells #[.int .i64 z, .slice A n c, .slice B m d] 36))).alloc (Nat.le_refl _) (.cells #[.int .i64 0, .slice none 0 0, .slice none 0 0] 36)
  have C1 := Lib.hid (C0.b hal)
  have hsz : (w.alloc (.cells #[.int .i64 z, .slice A n c, .slice B m d] 36)).heap.size = w.heap.size + 1 := by simp
  have N1 := Lib.hid (mk_base hsz.symm (nbx0 (w.alloc (.cells #[.int .i64 z, .slice A n c, .slice B m d] 36)) #[.int .i64 0, .slice none 0 0, .slice none 0 0] 36))
  have hs1 : ((w.alloc (.cells #[.int .i64 z, .slice A n c, .slice B m d] 36)).alloc (.cells #[.int .i64 0, .slice none 0 0, .slice none 0 0] 36)).heap.size = w.heap.size + 1 + 1 := by simp
  rw [hsz] at N1
  clear hal C0 h1 h2 hsz
  go_enter Try.func85, Try.ntmps85
  go_wp2_with fail
  generalize hw1 : (w.alloc (.cells #[.int .i64 z, .slice A n c, .slice B m d] 36)).alloc (.cells #[.int .i64 0, .slice none 0 0, .slice none 0 0] 36) = w1 at *
  clear hw1
  have k0 := C1.out.c0
  have k1 := C1.out.c1
  have k2 := C1.out.c2
  have HK := Lib.hid (show ∀ W, Below (w.heap.size + 1) w1 W → W.cell? ⟨w.heap.size, 0, none⟩ = some (.int .i64 z) ∧ W.cell? ⟨w.heap.size, 1, none⟩ = some (.slice A n c) ∧ W.cell? ⟨w.heap.size, 2, none⟩ = some (.slice B m d) from fun W hW => ⟨(hW.cell (p := ⟨w.heap.size, 0, none⟩) (show w.heap.size < _ by omega)).trans C1.out.c0, (hW.cell (p := ⟨w.heap.size, 1, none⟩) (show w.heap.size < _ by omega)).trans C1.out.c1, (hW.cell (p := ⟨w.heap.size, 2, none⟩) (show w.heap.size < _ by omega)).trans C1.out.c2⟩)
  have HBW := C1.out.below
  have hle1 : w.heap.size + 1 ≤ w1.heap.size := by omega
  go_region_held3 (fun W => W.cell? ⟨w.heap.size, 0, none⟩ = some (.int .i64 z) ∧ W.cell? ⟨w.heap.size, 1, none⟩ = some (.slice A n c) ∧ W.cell? ⟨w.heap.size, 2, none⟩ = some (.slice B m d))
    (first | with_reducible exact HK.out _ (PP.out.below.mono hle1) | with_reducible exact HK.out _ (hb3.mono hle1) | exact HK.out _ ⟨rfl, rfl, rfl, Nat.le_refl _, fun _ _ => rfl⟩ | with_reducible exact HK.out _ HST.out | (go_keep; done))
    (first
      | (have hz := OA; clear hz; go_at_call 77; (first | refine (spec_l1OwnS B m d H _ hm (C1.out.b hb3).r2).mono ?_ | refine (spec_l1OwnS B m d H _ hm (C1.out.b hb3).r2.drew).mono ?_); rintro e w4 ⟨B3, d3, rfl, ho4, hb4'⟩; have hb4 := hb4'; have PP := Lib.hid (two_ab hb3 OA.out hb4 ho4); have NB := N1.out.b (PP.out.below); have x0 := NB.cell 0 _ rfl; have x1 := NB.cell 1 _ rfl; have x2 := NB.cell 2 _ rfl; have f0 := NB.free 0; have f1 := NB.free 1; have f2 := NB.free 2; clear ho4 hb4 hb4')
      | (have hz := OB; clear hz; go_at_call 77; (first | refine (spec_l1OwnS A n c S _ hn (C1.out.b hb3).r1).mono ?_ | refine (spec_l1OwnS A n c S _ hn (C1.out.b hb3).r1.drew).mono ?_); rintro e w4 ⟨A3, c3, rfl, ho4, hb4'⟩; have hb4 := hb4'; have PP := Lib.hid (two_ba hb3 OB.out hb4 ho4); have NB := N1.out.b (PP.out.below); have x0 := NB.cell 0 _ rfl; have x1 := NB.cell 1 _ rfl; have x2 := NB.cell 2 _ rfl; have f0 := NB.free 0; have f1 := NB.free 1; have f2 := NB.free 2; clear ho4 hb4 hb4')
      | (go_at_call 77; refine (spec_l1OwnS A n c S _ hn C1.out.r1.drew).mono ?_; rintro e w3 ⟨A3, c3, rfl, ho3, hb3'⟩; have hb3 := of_drew hb3'; have OA := Lib.hid (show w3.ownsRow w1.heap.size 9 1 (.slice A3 n c3) n (vals (strV S) n) from ho3); clear ho3 hb3')
      | (go_at_call 77; refine (spec_l1OwnS B m d H _ hm C1.out.r2.drew).mono ?_; rintro e w3 ⟨B3, d3, rfl, ho3, hb3'⟩; have hb3 := of_drew hb3'; have OB := Lib.hid (show w3.ownsRow w1.heap.size 9 1 (.slice B3 m d3) m (vals (strV H) m) from ho3); clear ho3 hb3'))
  all_goals
    have hw1le : w.heap.size ≤ w1.heap.size := by omega
    have hl0 : w.heap.size ≤ w.heap.size + 1 := by omega
    have r1 := own_far (own_far (own_far (owned_low PP.out.o1 hw1le) (nbx_ne_row NB PP.out.o1) 0 (.int .i64 z)) (nbx_ne_row NB PP.out.o1) 1 (.slice A3 n c3)) (nbx_ne_row NB PP.out.o1) 2 (.slice B3 m d3)
    have r2 := own_far (own_far (own_far (owned_low PP.out.o2 hw1le) (nbx_ne_row NB PP.out.o2) 0 (.int .i64 z)) (nbx_ne_row NB PP.out.o2) 1 (.slice A3 n c3)) (nbx_ne_row NB PP.out.o2) 2 (.slice B3 m d3)
    have bb := (((HBW.trans (PP.out.below.mono hw1le)).setCell (p := ⟨w.heap.size + 1, 0, none⟩) hl0 (.int .i64 z)).setCell (p := ⟨w.heap.size + 1, 1, none⟩) hl0 (.slice A3 n c3)).setCell (p := ⟨w.heap.size + 1, 2, none⟩) hl0 (.slice B3 m d3)
    have TT := Lib.hid (Two.mk bb r1 r2 PP.out.ne)
    clear r1 r2 bb
    go_wp2_with fail
    refine bodyPost_ret (v := .agg #[.int .i64 z, .slice A3 n c3, .slice B3 m d3]) (by simp [results, Try.results85, go_sem, x0, x1, x2]) rfl ?_
    exact ⟨A3, c3, B3, d3, rfl, TT.out⟩
end
end Go.Proofs.Ytfjimjbndkhkcaa
