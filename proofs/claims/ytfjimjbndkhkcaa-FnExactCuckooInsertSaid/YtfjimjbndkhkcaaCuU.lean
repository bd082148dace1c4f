/- CuckooUnstash: both sides. -/
import Derived.Test.YtfjimjbndkhkcaaCuO
import Derived.Deep.RegionHeld3
namespace Go.Proofs.Ytfjimjbndkhkcaa
open Go.RowKit

/-- Cells and stash after k keys of the stash. -/
def unS (z : Int) (n : Nat) (S H : Nat → ByteArray) : Nat → (Nat → ByteArray) × List ByteArray
  | 0 => (S, [])
  | k + 1 => (setO (empO z (H k).data.toList n (unS z n S H k).1) (unS z n S H k).1 (H k), if (empO z (H k).data.toList n (unS z n S H k).1).isSome then (unS z n S H k).2 else (unS z n S H k).2 ++ [H k])
def unT (z : Int) (n : Nat) (S H : Nat → ByteArray) (k : Nat) : Nat → ByteArray := (unS z n S H k).1
def unL (z : Int) (n : Nat) (S H : Nat → ByteArray) (k : Nat) : List ByteArray := (unS z n S H k).2
theorem unL_len (z : Int) (n : Nat) (S H : Nat → ByteArray) : ∀ k, (unL z n S H k).length ≤ k
  | 0 => Nat.le_refl _
  | k + 1 => by
    have ih := unL_len z n S H k
    unfold unL at ih ⊢
    rw [unS]
    show (if _ then _ else _ : List ByteArray).length ≤ k + 1
    split
    · omega
    · simp; omega
theorem unT_yes {z : Int} {n : Nat} {S H : Nat → ByteArray} {k i : Nat} (h : empO z (H k).data.toList n (unT z n S H k) = some i) : unT z n S H (k + 1) = updC (unT z n S H k) i (H k) ∧ unL z n S H (k + 1) = unL z n S H k := by
  unfold unT unL at *
  rw [unS, h]; exact ⟨rfl, rfl⟩
theorem unT_no {z : Int} {n : Nat} {S H : Nat → ByteArray} {k : Nat} (h : empO z (H k).data.toList n (unT z n S H k) = none) : unT z n S H (k + 1) = unT z n S H k ∧ unL z n S H (k + 1) = unL z n S H k ++ [H k] := by
  unfold unT unL at *
  rw [unS, h]; exact ⟨rfl, rfl⟩
/-- A list of strings as a row. -/
def rowB (L : List ByteArray) (i : Nat) : ByteArray := L.getD i ⟨#[]⟩
theorem rowB_old (L : List ByteArray) (x : ByteArray) (i : Nat) (h : i < L.length) : rowB (L ++ [x]) i = rowB L i := by
  unfold rowB
  rw [List.getD_eq_getElem?_getD, List.getD_eq_getElem?_getD, List.getElem?_append_left h]
theorem rowB_new (L : List ByteArray) (x : ByteArray) : rowB (L ++ [x]) L.length = x := by
  unfold rowB
  rw [List.getD_eq_getElem?_getD, List.getElem?_append_right (Nat.le_refl _)]; simp
theorem row_ext {w : World} {B d k : Nat} {A : Option Addr} {L : List ByteArray} {x : ByteArray} (h : w.ownsRow B 9 1 (.slice A k d) k (vals (strV (rowB L)) k)) (hk : k ≤ L.length) : w.ownsRow B 9 1 (.slice A k d) k (vals (strV (rowB (L ++ [x]))) k) := by
  rwa [vals_congr (F := strV (rowB (L ++ [x]))) (G := strV (rowB L)) (fun i hi => by unfold strV; rw [rowB_old L x i (by omega)])]
/-- What the two orders of making the box leave. -/
structure Mk (W0 : World) (rb : Nat) (q : Nat) (z : Int) (A : Option Addr) (c n : Nat) (S : Nat → ByteArray) (wr : World) : Prop where
  below : Below W0.heap.size W0 wr
  res : NBX W0.heap.size rb #[.int .i64 0, .slice none 0 0, .slice none 0 0] 36 wr
  box : NBX W0.heap.size q #[.int .i64 z, .slice A n c, .slice none 0 0] 36 wr
  out : wr.ownsRow W0.heap.size 9 1 (.slice A n c) n (vals (strV S) n)
  ne : rb ≠ q
theorem Mk.co {W0 wr : World} {rb q c n : Nat} {z : Int} {A : Option Addr} {S : Nat → ByteArray} (h : Mk W0 rb q z A c n S wr) (hn : 1 ≤ n) : ∃ g, A = some ⟨g, 0, none⟩ ∧ CO W0 rb #[.int .i64 0, .slice none 0 0, .slice none 0 0] q z g c n S none 0 0 (rowB []) wr := by
  rcases owned_vec h.out with h0 | ⟨g, rfl, hg, ho⟩
  · omega
  · exact ⟨g, rfl, h.below, h.res, h.box, ho, hg, World.ownsRow_nil _ _ _ _, h.ne, by simp [Value.ownBlock]⟩
/-- A table as the answer of a call, and whether there is one. -/
def CuAns (z : Int) (n : Nat) (S : Nat → ByteArray) (m : Nat) (H : Nat → ByteArray) (w : World) (e : Ending) (w' : World) : Prop :=
  ∃ A c B d, e = .returned (.tuple #[.agg #[.int .i64 z, .slice A n c, .slice B m d], .bool true]) ∧ Ow w.heap.size w'.heap.size 9 A n (strV S) w' ∧ Ow w.heap.size w'.heap.size 9 B m (strV H) w' ∧ Apart n A m B ∧ Below w.heap.size w w'
def CuNo (w : World) (e : Ending) (w' : World) : Prop := e = .returned (.tuple #[.agg #[.int .i64 0, .slice none 0 0, .slice none 0 0], .bool false]) ∧ Below w.heap.size w w'
theorem zero3 (z : Int) (g n c m d : Nat) (B : Option Addr) : (((#[.int .i64 0, .slice none 0 0, .slice none 0 0] : Array Value).setIfInBounds 0 (.int .i64 z)).setIfInBounds 1 (.slice (some ⟨g, 0, none⟩) n c)).setIfInBounds 2 (.slice B m d) = #[.int .i64 z, .slice (some ⟨g, 0, none⟩) n c, .slice B m d] := rfl
theorem mk_base {base b q : Nat} {cs : Array Value} {t : TypeId} {w : World} (hb : b = base) (h : NBX base q cs t w) : NBX b q cs t w := hb ▸ h
theorem mk_low {base b q : Nat} {cs : Array Value} {t : TypeId} {w : World} (hb : b ≤ base) (h : NBX base q cs t w) : NBX b q cs t w := ⟨h.blk, Nat.le_trans hb h.ge⟩
theorem mk_far {w : World} {B : Nat} {e : TypeId} {v : Value} {n : Nat} {xs : List Value} (h : w.ownsRow B e 1 v n xs) {b : Nat} (hb : v.ownBlock ≠ some b) (o : Nat) (u : Value) : (w.setCell ⟨b, o, none⟩ u).ownsRow B e 1 v n xs := own_far h hb o u
section
variable (z : Int) (A : Option Addr) (n c : Nat) (S : Nat → ByteArray) (B : Option Addr) (m d : Nat) (H : Nat → ByteArray) (w : World)
set_option maxHeartbeats 1000000 in
theorem impl_unstash_no (hn : n ≤ 1048576) (hm : m ≤ 1048576) (hs : ∀ i, i < n → (S i).size ≤ maxLen) (hh : ∀ i, i < m → (H i).size ≤ maxLen) (h1 : GRow w A n (strV S)) (h2 : GRow w B m (strV H)) (h : ¬ CuOk z S n H m) :
    Calls Try.prog 44 #[.agg #[.int .i64 z, .slice A n c, .slice B m d]] w (CuNo w) := by
  have HI := Lib.hid (fun W g1 g2 => (BoolIs.two (impl_isCuckoo z A n c S B m d H W hn hm hs hh g1 g2)).2 h)
  have C0 := CL.start (z := z) (c := c) (d := d) h1 h2 36
  have C1 := Lib.hid (C0.b ((Below.refl _ _).alloc (Nat.le_refl _) (.cells #[.int .i64 0, .slice none 0 0, .slice none 0 0] 36)))
  have N1 := Lib.hid (nbx0 (w.alloc (.cells #[.int .i64 z, .slice A n c, .slice B m d] 36)) #[.int .i64 0, .slice none 0 0, .slice none 0 0] 36)
  have hsz : (w.alloc (.cells #[.int .i64 z, .slice A n c, .slice B m d] 36)).heap.size = w.heap.size + 1 := by simp
  rw [hsz] at N1
  clear hs hh h1 h2 h C0 hsz
  go_enter Try.func44, Try.ntmps44
  go_wp2_with fail
  refine (HI.out _ C1.out.r1 C1.out.r2).mono ?_; rintro e w2 ⟨rfl, hb⟩
  have N2 := Lib.hid (N1.out.b hb)
  have HB := Lib.hid (C1.out.b hb).below
  clear hb
  have x0 := N2.out.cell 0 _ rfl
  have x1 := N2.out.cell 1 _ rfl
  have x2 := N2.out.cell 2 _ rfl
  have f0 := N2.out.free 0
  have f1 := N2.out.free 1
  have f2 := N2.out.free 2
  go_wp2_with fail
  refine bodyPost_ret (v := .tuple #[.agg #[.int .i64 0, .slice none 0 0, .slice none 0 0], .bool false]) (by simp [results, Try.results44, go_sem, x0, x1, x2]) rfl ?_
  exact ⟨rfl, ((HB.out.setCell (p := ⟨w.heap.size + 1, 0, none⟩) (by show _ ≤ w.heap.size + 1; omega) _).setCell (p := ⟨w.heap.size + 1, 1, none⟩) (by show _ ≤ w.heap.size + 1; omega) _).setCell (p := ⟨w.heap.size + 1, 2, none⟩) (by show _ ≤ w.heap.size + 1; omega) _⟩
set_option maxHeartbeats 1000000 in
theorem spec_unstash_no (hn : n ≤ 1048576) (hm : m ≤ 1048576) (hs : ∀ i, i < n → (S i).size ≤ maxLen) (hh : ∀ i, i < m → (H i).size ≤ maxLen) (h1 : GRow w A n (strV S)) (h2 : GRow w B m (strV H)) (h : ¬ CuOk z S n H m) :
    Calls Try.prog 43 #[.agg #[.int .i64 z, .slice A n c, .slice B m d]] w (CuNo w) := by
  have HI := Lib.hid (fun W g1 g2 => (BoolIs.two (spec_cuGood z A n c S B m d H W hn hm hs hh g1 g2)).2 h)
  have C0 := CL.start (z := z) (c := c) (d := d) h1 h2 36
  have C1 := Lib.hid (C0.b ((Below.refl _ _).alloc (Nat.le_refl _) (.cells #[.int .i64 0, .slice none 0 0, .slice none 0 0] 36)))
  have N1 := Lib.hid (nbx0 (w.alloc (.cells #[.int .i64 z, .slice A n c, .slice B m d] 36)) #[.int .i64 0, .slice none 0 0, .slice none 0 0] 36)
  have hsz : (w.alloc (.cells #[.int .i64 z, .slice A n c, .slice B m d] 36)).heap.size = w.heap.size + 1 := by simp
  rw [hsz] at N1
  clear hs hh h1 h2 h C0 hsz
  go_enter Try.func43, Try.ntmps43
  go_wp2_with fail
  refine (HI.out _ C1.out.r1 C1.out.r2).mono ?_; rintro e w2 ⟨rfl, hb⟩
  have N2 := Lib.hid (N1.out.b hb)
  have HB := Lib.hid (C1.out.b hb).below
  clear hb
  have x0 := N2.out.cell 0 _ rfl
  have x1 := N2.out.cell 1 _ rfl
  have x2 := N2.out.cell 2 _ rfl
  have f0 := N2.out.free 0
  have f1 := N2.out.free 1
  have f2 := N2.out.free 2
  go_wp2_with fail
  refine bodyPost_ret (v := .tuple #[.agg #[.int .i64 0, .slice none 0 0, .slice none 0 0], .bool false]) (by simp [results, Try.results43, go_sem, x0, x1, x2]) rfl ?_
  exact ⟨rfl, ((HB.out.setCell (p := ⟨w.heap.size + 1, 0, none⟩) (by show _ ≤ w.heap.size + 1; omega) _).setCell (p := ⟨w.heap.size + 1, 1, none⟩) (by show _ ≤ w.heap.size + 1; omega) _).setCell (p := ⟨w.heap.size + 1, 2, none⟩) (by show _ ≤ w.heap.size + 1; omega) _⟩
set_option maxRecDepth 100000 in
set_option maxHeartbeats 4000000 in
theorem impl_unstash (hs : ∀ i, i < n → (S i).size ≤ maxLen) (hh : ∀ i, i < m → (H i).size ≤ maxLen) (h1 : GRow w A n (strV S)) (h2 : GRow w B m (strV H)) (h : CuOk z S n H m) :
    Calls Try.prog 44 #[.agg #[.int .i64 z, .slice A n c, .slice B m d]] w (CuAns z n (unT z n S H m) (unL z n S H m).length (rowB (unL z n S H m)) w) := by
  have hzs := sizeB_out h.size
  have hm := h.few
  have hz := h.size
  have HI := Lib.hid (fun W g1 g2 => (BoolIs.two (impl_isCuckoo z A n c S B m d H W (by omega) (by omega) hs hh g1 g2)).1 h)
  have C0 := CL.start (z := z) (c := c) (d := d) h1 h2 36
  have HCL := Lib.hid (fun W (hb : Below (w.alloc (.cells #[.int .i64 z, .slice A n c, .slice B m d] 36)).heap.size (w.alloc (.cells #[.int .i64 z, .slice A n c, .slice B m d] 36)) W) => C0.b hb)
  have N1 := Lib.hid (nbx0 (w.alloc (.cells #[.int .i64 z, .slice A n c, .slice B m d] 36)) #[.int .i64 0, .slice none 0 0, .slice none 0 0] 36)
  have hsz : (w.alloc (.cells #[.int .i64 z, .slice A n c, .slice B m d] 36)).heap.size = w.heap.size + 1 := by simp
  have HH := Lib.hid hh
  have HB0 := Lib.hid ((Below.refl w.heap.size w).alloc (Nat.le_refl _) (.cells #[.int .i64 z, .slice A n c, .slice B m d] 36))
  clear hs hh h1 h2 h C0
  go_enter Try.func44, Try.ntmps44
  go_wp2_with fail
  generalize hW0 : w.alloc (.cells #[.int .i64 z, .slice A n c, .slice B m d] 36) = W0 at *
  clear hW0
  rw [hsz] at N1
  have hb1 := (Below.refl W0.heap.size W0).alloc (Nat.le_refl _) (.cells #[.int .i64 0, .slice none 0 0, .slice none 0 0] 36)
  have C1 := HCL.out _ hb1
  refine (HI.out _ C1.r1 C1.r2).mono ?_; rintro e w2 ⟨rfl, hb⟩
  have N2 := Lib.hid (N1.out.b hb)
  have HB2 := Lib.hid (hb1.trans (hb.mono hb1.size))
  clear hb hb1 C1 N1
  have C2 := Lib.hid (HCL.out _ HB2.out)
  have HK := Lib.hid (show ∀ W, Below w2.heap.size w2 W → W.cell? ⟨w.heap.size, 0, none⟩ = some (.int .i64 z) ∧ W.cell? ⟨w.heap.size, 1, none⟩ = some (.slice A n c) from fun W hW => ⟨(C2.out.b hW).c0, (C2.out.b hW).c1⟩)
  have k0 := C2.out.c0
  have k1 := C2.out.c1
  have hs2 := C2.out.size
  have hW0le := HB2.out.size
  have hrb : w.heap.size + 1 < w2.heap.size := N2.out.lt
  have B0 := Lib.hid ((Below.refl w2.heap.size w2).alloc (Nat.le_refl _) (.cells #[.int .i64 0, .slice none 0 0, .slice none 0 0] 36))
  have NB0 := Lib.hid (nbx0 w2 #[.int .i64 0, .slice none 0 0, .slice none 0 0] 36)
  go_wp2_with fail
  go_region_held3 (fun W => W.cell? ⟨w.heap.size, 0, none⟩ = some (.int .i64 z) ∧ W.cell? ⟨w.heap.size, 1, none⟩ = some (.slice A n c))
    (first | with_reducible exact HK.out _ hq1 | exact HK.out _ ⟨rfl, rfl, rfl, Nat.le_refl _, fun _ _ => rfl⟩ | exact HK.out _ B0.out | with_reducible exact HK.out _ (hq1.alloc hq1.size _) | with_reducible exact HK.out _ (((hq1.setCell (Nat.le_refl _) _).setCell (Nat.le_refl _) _).setCell (Nat.le_refl _) _) | with_reducible exact HK.out _ ((hq1.setCell (Nat.le_refl _) _).setCell (Nat.le_refl _) _) | with_reducible exact HK.out _ (hq1.setCell (Nat.le_refl _) _) | (go_keep; done))
    (first
      | (go_at_call 81; refine (clone_strs A n c S _ (by omega) C2.out.r1.drew).mono ?_; rintro e w3 ⟨A3, c3, rfl, ho3, hq1'⟩; have hq1 := of_drew hq1'; have O3 := Lib.hid ho3; clear ho3 hq1')
      | (go_at_call 81; refine (clone_strs A n c S _ (by omega) (C2.out.b B0.out).r1.drew).mono ?_; rintro e w3 ⟨A3, c3, rfl, ho3, hq1'⟩; have hqq := of_drew hq1'; have hq1 := B0.out.trans (hqq.mono B0.out.size); have NB1 := NBX.b NB0.out hqq; have x0 := NB1.cell 0 _ rfl; have x1 := NB1.cell 1 _ rfl; have x2 := NB1.cell 2 _ rfl; have hf0 := NB1.free 0; have hf1 := NB1.free 1; have hf2 := NB1.free 2; have O3 := Lib.hid ho3; clear ho3 hq1' hqq))
  all_goals
    first
      | (have MK := Lib.hid (show Mk W0 (w.heap.size + 1) w2.heap.size z A3 c3 n S (((w3.setCell ⟨w2.heap.size, 0, none⟩ (.int .i64 z)).setCell ⟨w2.heap.size, 1, none⟩ (.slice A3 n c3)).setCell ⟨w2.heap.size, 2, none⟩ (.slice none 0 0)) from
          ⟨HB2.out.trans ((((hq1.setCell (p := ⟨w2.heap.size, 0, none⟩) (Nat.le_refl _) _).setCell (p := ⟨w2.heap.size, 1, none⟩) (Nat.le_refl _) _).setCell (p := ⟨w2.heap.size, 2, none⟩) (Nat.le_refl _) _).mono HB2.out.size), nbx_set (nbx_set (nbx_set (mk_base hsz (N2.out.b hq1)) (by omega) _ _) (by omega) _ _) (by omega) _ _, mk_low HB2.out.size (((NBX.set NB1 0 _).set 1 _).set 2 _), mk_far (mk_far (mk_far (owned_low O3.out (by simp; omega)) (nbx_ne_row NB1 O3.out) _ _) (nbx_ne_row NB1 O3.out) _ _) (nbx_ne_row NB1 O3.out) _ _, by omega⟩)
         clear NB1 x0 x1 x2 hf0 hf1 hf2
         generalize (((w3.setCell ⟨w2.heap.size, 0, none⟩ (.int .i64 z)).setCell ⟨w2.heap.size, 1, none⟩ (.slice A3 n c3)).setCell ⟨w2.heap.size, 2, none⟩ (.slice none 0 0)) = w5 at *
         generalize w2.heap.size = qb at *)
      | (have MK := Lib.hid (show Mk W0 (w.heap.size + 1) w3.heap.size z A3 c3 n S (w3.alloc (.cells #[.int .i64 z, .slice A3 n c3, .slice none 0 0] 36)) from
          ⟨HB2.out.trans ((hq1.alloc hq1.size _).mono HB2.out.size), (mk_base hsz (N2.out.b hq1)).b ((Below.refl _ _).alloc (Nat.le_refl _) _), mk_low (Nat.le_trans HB2.out.size hq1.size) (nbx0 w3 _ _), owned_b (owned_low O3.out (show W0.heap.size ≤ w2.drew.heap.size from HB2.out.size)) ((Below.refl _ _).alloc (Nat.le_refl _) _), by have := hq1.size; omega⟩)
         generalize (w3.alloc (.cells #[.int .i64 z, .slice A3 n c3, .slice none 0 0] 36)) = w5 at *
         generalize w3.heap.size = qb at *)
    clear HK k0 k1 N2 O3
    obtain ⟨g, rfl, hco⟩ := MK.out.co (by omega)
    have CO0 := Lib.hid hco
    clear hco MK
    have k2 := (HCL.out _ CO0.out.below).c2
    go_wp2_with fail
    clear k2
    go_loopw [20] (fun i wr => ∃ (k : Nat) (B' : Option Addr) (d' : Nat), k ≤ m ∧ i = .int .i64 k ∧ Hid (CO W0 (w.heap.size + 1) #[.int .i64 0, .slice none 0 0, .slice none 0 0] qb z g c3 n (unT z n S H k) B' d' (unL z n S H k).length (rowB (unL z n S H k)) wr)) (fun i _ => m - (intOf i).toNat)
    case atStart => exact ⟨0, none, 0, Nat.zero_le _, rfl, CO0⟩
    case round =>
      obtain ⟨k, B', d', hk, rfl, HC⟩ := hrel
      have x0 := HC.out.box.cell 0 _ rfl
      have x1 := HC.out.box.cell 1 _ rfl
      have x2 := HC.out.box.cell 2 _ rfl
      have ff2 := HC.out.box.free 2
      have hszr := HC.out.below.size
      have hLk := unL_len z n S H k
      by_cases hlt : k < m
      · obtain ⟨b, off, rfl, hbl, hcc⟩ := (HCL.out _ HC.out.below).r2 (by omega)
        have hx : wr.cell? ⟨b, off + k, none⟩ = some (.string (H k)) := hcc k hlt
        have hhk := HH.out k hlt
        clear hcc
        cases hO : empO z (H k).data.toList n (unT z n S H k) with
        | some i =>
          obtain ⟨hT, hL⟩ := unT_yes hO
          obtain ⟨hin, _, _⟩ := empO_lt (by omega) hO
          go_wp2_with fail
          refine (impl_settle z n c3 (unT z n S H k) B' (unL z n S H k).length d' (H k) wr g hhk hz HC.out.out).mono ?_; rintro e w4 ⟨rfl, hg4, ho4⟩
          rw [hO] at ho4 ⊢
          have HC2 := Lib.hid (show CO W0 (w.heap.size + 1) #[.int .i64 0, .slice none 0 0, .slice none 0 0] qb z g c3 n (unT z n S H (k + 1)) B' d' (unL z n S H (k + 1)).length (rowB (unL z n S H (k + 1))) w4 by
            rw [hT, hL]; exact HC.out.slotG hg4 ho4)
          clear hg4 ho4
          go_wp2_with fail
          go_roundw
          case rel => exact ⟨k + 1, B', d', by omega, by go_num, HC2⟩
          case measure => simp [intOf]; omega
        | none =>
          obtain ⟨hT, hL⟩ := unT_no hO
          go_wp2_with fail
          refine (impl_settle z n c3 (unT z n S H k) B' (unL z n S H k).length d' (H k) wr g hhk hz HC.out.out).mono ?_; rintro e w4 ⟨rfl, hg4, ho4⟩
          rw [hO] at ho4 ⊢
          have HC1 := Lib.hid (HC.out.slotG hg4 (show GOwn w4 9 g n (strV (unT z n S H k)) from ho4))
          clear hg4 ho4
          have y0 := HC1.out.box.cell 0 _ rfl
          have y1 := HC1.out.box.cell 1 _ rfl
          have y2 := HC1.out.box.cell 2 _ rfl
          have HV := Lib.hid (show strV (rowB (unL z n S H k ++ [H k])) (unL z n S H k).length = .string (H k) by unfold strV; rw [rowB_new])
          have HR := Lib.hid (row_ext (x := H k) HC1.out.st (Nat.le_refl _))
          have hs4 := HC1.out.below.size
          have hglt := HC1.out.out.lt
          generalize hLL : unL z n S H k = L at *
          go_wp2_with (at_builtin; refine wpList_push4 rfl _ _ 25 rfl W0.heap.size 9 (.string ByteArray.empty) 16 Try.underlying25 infoS rfl B' L.length d' (strV (rowB (L ++ [H k]))) (.string (H k)) w4 rfl HR.out rfl HV.out rfl (by omega) (by omega) hs4 ?_)
          intro A' c' w6 ho6 _ hg6 hat6
          have HAP := Lib.hid (show (Value.slice A' (L.length + 1) c').ownBlock ≠ some g from fun e => by
            rcases hat6 with h6 | h6
            · exact HC1.out.ap (h6.symm.trans e)
            · rw [h6] at e; injection e with e; omega)
          have HX6 := Lib.hid (show NBX W0.heap.size qb #[.int .i64 z, .slice (some ⟨g, 0, none⟩) n c3, .slice B' L.length d'] 36 w6 from ⟨(hg6.block qb (HC1.out.al (.cells #[.string (H k)] 9)).box.lt (fun e => nbx_ne_row HC1.out.box HC1.out.st e.symm)).trans (HC1.out.al (.cells #[.string (H k)] 9)).box.blk, HC1.out.box.ge⟩)
          have HC2 := Lib.hid (show CO W0 (w.heap.size + 1) #[.int .i64 0, .slice none 0 0, .slice none 0 0] qb z g c3 n (unT z n S H (k + 1)) A' c' (unL z n S H (k + 1)).length (rowB (unL z n S H (k + 1))) (w6.setCell ⟨qb, 2, none⟩ (.slice A' (L.length + 1) c')) by
            rw [hT, hL]
            have hl1 : (L ++ [H k]).length = L.length + 1 := by simp
            rw [hl1]
            exact (HC1.out.al (.cells #[.string (H k)] 9)).turn hg6 (by first | exact ho6 | (rw [hsz]; exact ho6)) HAP.out)
          have z0 := HX6.out.cell 2 _ rfl
          have z1 := HX6.out.free 2
          clear ho6 hg6 hat6 y0 y1 y2 x0 x1 x2
          go_wp2_with fail
          go_roundw
          case rel => exact ⟨k + 1, A', c', by omega, by go_num, HC2⟩
          case measure => simp [intOf]; omega
      · obtain rfl : k = m := by omega
        have r0 := HC.out.res.cell 0 _ rfl
        have r1 := HC.out.res.cell 1 _ rfl
        have r2 := HC.out.res.cell 2 _ rfl
        have rf0 := HC.out.res.free 0
        have rf1 := HC.out.res.free 1
        have rf2 := HC.out.res.free 2
        go_wp2_with fail
        refine bodyPost_ret (v := .tuple #[.agg #[.int .i64 z, .slice (some ⟨g, 0, none⟩) n c3, .slice B' (unL z n S H k).length d'], .bool true]) (by simp [results, Try.results44, go_sem, r0, r1, r2]) rfl ?_
        have hF := ((HC.out.resSet 0 (.int .i64 z)).resSet 1 (.slice (some ⟨g, 0, none⟩) n c3)).resSet 2 (.slice B' (unL z n S H k).length d')
        obtain ⟨o1, o2, o3⟩ := hF.fin
        have hle0 : w.heap.size ≤ W0.heap.size := by omega
        exact ⟨_, _, _, _, rfl, o1.mono hle0 (Nat.le_refl _), o2.mono hle0 (Nat.le_refl _), o3, (HB0.out).trans (hF.below.mono hle0)⟩
set_option maxRecDepth 100000 in
set_option maxHeartbeats 4000000 in
theorem spec_unstash (hs : ∀ i, i < n → (S i).size ≤ maxLen) (hh : ∀ i, i < m → (H i).size ≤ maxLen) (h1 : GRow w A n (strV S)) (h2 : GRow w B m (strV H)) (h : CuOk z S n H m) :
    Calls Try.prog 43 #[.agg #[.int .i64 z, .slice A n c, .slice B m d]] w (CuAns z n (unT z n S H m) (unL z n S H m).length (rowB (unL z n S H m)) w) := by
  have hzs := sizeB_out h.size
  have hm := h.few
  have hz := h.size
  have HI := Lib.hid (fun W g1 g2 => (BoolIs.two (spec_cuGood z A n c S B m d H W (by omega) (by omega) hs hh g1 g2)).1 h)
  have C0 := CL.start (z := z) (c := c) (d := d) h1 h2 36
  have HCL := Lib.hid (fun W (hb : Below (w.alloc (.cells #[.int .i64 z, .slice A n c, .slice B m d] 36)).heap.size (w.alloc (.cells #[.int .i64 z, .slice A n c, .slice B m d] 36)) W) => C0.b hb)
  have N1 := Lib.hid (nbx0 (w.alloc (.cells #[.int .i64 z, .slice A n c, .slice B m d] 36)) #[.int .i64 0, .slice none 0 0, .slice none 0 0] 36)
  have hsz : (w.alloc (.cells #[.int .i64 z, .slice A n c, .slice B m d] 36)).heap.size = w.heap.size + 1 := by simp
  have HH := Lib.hid hh
  have HB0 := Lib.hid ((Below.refl w.heap.size w).alloc (Nat.le_refl _) (.cells #[.int .i64 z, .slice A n c, .slice B m d] 36))
  clear hs hh h1 h2 h C0
  go_enter Try.func43, Try.ntmps43
  go_wp2_with fail
  generalize hW0 : w.alloc (.cells #[.int .i64 z, .slice A n c, .slice B m d] 36) = W0 at *
  clear hW0
  rw [hsz] at N1
  have hb1 := (Below.refl W0.heap.size W0).alloc (Nat.le_refl _) (.cells #[.int .i64 0, .slice none 0 0, .slice none 0 0] 36)
  have C1 := HCL.out _ hb1
  refine (HI.out _ C1.r1 C1.r2).mono ?_; rintro e w2 ⟨rfl, hb⟩
  have N2 := Lib.hid (N1.out.b hb)
  have HB2 := Lib.hid (hb1.trans (hb.mono hb1.size))
  clear hb hb1 C1 N1
  have C2 := Lib.hid (HCL.out _ HB2.out)
  have HK := Lib.hid (show ∀ W, Below w2.heap.size w2 W → W.cell? ⟨w.heap.size, 0, none⟩ = some (.int .i64 z) ∧ W.cell? ⟨w.heap.size, 1, none⟩ = some (.slice A n c) from fun W hW => ⟨(C2.out.b hW).c0, (C2.out.b hW).c1⟩)
  have k0 := C2.out.c0
  have k1 := C2.out.c1
  have hs2 := C2.out.size
  have hW0le := HB2.out.size
  have hrb : w.heap.size + 1 < w2.heap.size := N2.out.lt
  have B0 := Lib.hid ((Below.refl w2.heap.size w2).alloc (Nat.le_refl _) (.cells #[.int .i64 0, .slice none 0 0, .slice none 0 0] 36))
  have NB0 := Lib.hid (nbx0 w2 #[.int .i64 0, .slice none 0 0, .slice none 0 0] 36)
  go_wp2_with fail
  go_region_held3 (fun W => W.cell? ⟨w.heap.size, 0, none⟩ = some (.int .i64 z) ∧ W.cell? ⟨w.heap.size, 1, none⟩ = some (.slice A n c))
    (first | with_reducible exact HK.out _ hq1 | exact HK.out _ ⟨rfl, rfl, rfl, Nat.le_refl _, fun _ _ => rfl⟩ | exact HK.out _ B0.out | with_reducible exact HK.out _ (hq1.alloc hq1.size _) | with_reducible exact HK.out _ (((hq1.setCell (Nat.le_refl _) _).setCell (Nat.le_refl _) _).setCell (Nat.le_refl _) _) | with_reducible exact HK.out _ ((hq1.setCell (Nat.le_refl _) _).setCell (Nat.le_refl _) _) | with_reducible exact HK.out _ (hq1.setCell (Nat.le_refl _) _) | (go_keep; done))
    (first
      | (go_at_call 77; refine (spec_l1OwnS A n c S _ (by omega) C2.out.r1.drew).mono ?_; rintro e w3 ⟨A3, c3, rfl, ho3, hq1'⟩; have hq1 := of_drew hq1'; have O3 := Lib.hid ho3; clear ho3 hq1')
      | (go_at_call 77; refine (spec_l1OwnS A n c S _ (by omega) (C2.out.b B0.out).r1.drew).mono ?_; rintro e w3 ⟨A3, c3, rfl, ho3, hq1'⟩; have hqq := of_drew hq1'; have hq1 := B0.out.trans (hqq.mono B0.out.size); have NB1 := NBX.b NB0.out hqq; have x0 := NB1.cell 0 _ rfl; have x1 := NB1.cell 1 _ rfl; have x2 := NB1.cell 2 _ rfl; have hf0 := NB1.free 0; have hf1 := NB1.free 1; have hf2 := NB1.free 2; have O3 := Lib.hid ho3; clear ho3 hq1' hqq))
  all_goals
    first
      | (have MK := Lib.hid (show Mk W0 (w.heap.size + 1) w2.heap.size z A3 c3 n S (((w3.setCell ⟨w2.heap.size, 0, none⟩ (.int .i64 z)).setCell ⟨w2.heap.size, 1, none⟩ (.slice A3 n c3)).setCell ⟨w2.heap.size, 2, none⟩ (.slice none 0 0)) from
          ⟨HB2.out.trans ((((hq1.setCell (p := ⟨w2.heap.size, 0, none⟩) (Nat.le_refl _) _).setCell (p := ⟨w2.heap.size, 1, none⟩) (Nat.le_refl _) _).setCell (p := ⟨w2.heap.size, 2, none⟩) (Nat.le_refl _) _).mono HB2.out.size), nbx_set (nbx_set (nbx_set (mk_base hsz (N2.out.b hq1)) (by omega) _ _) (by omega) _ _) (by omega) _ _, mk_low HB2.out.size (((NBX.set NB1 0 _).set 1 _).set 2 _), mk_far (mk_far (mk_far (owned_low O3.out (by simp; omega)) (nbx_ne_row NB1 O3.out) _ _) (nbx_ne_row NB1 O3.out) _ _) (nbx_ne_row NB1 O3.out) _ _, by omega⟩)
         clear NB1 x0 x1 x2 hf0 hf1 hf2
         generalize (((w3.setCell ⟨w2.heap.size, 0, none⟩ (.int .i64 z)).setCell ⟨w2.heap.size, 1, none⟩ (.slice A3 n c3)).setCell ⟨w2.heap.size, 2, none⟩ (.slice none 0 0)) = w5 at *
         generalize w2.heap.size = qb at *)
      | (have MK := Lib.hid (show Mk W0 (w.heap.size + 1) w3.heap.size z A3 c3 n S (w3.alloc (.cells #[.int .i64 z, .slice A3 n c3, .slice none 0 0] 36)) from
          ⟨HB2.out.trans ((hq1.alloc hq1.size _).mono HB2.out.size), (mk_base hsz (N2.out.b hq1)).b ((Below.refl _ _).alloc (Nat.le_refl _) _), mk_low (Nat.le_trans HB2.out.size hq1.size) (nbx0 w3 _ _), owned_b (owned_low O3.out (show W0.heap.size ≤ w2.drew.heap.size from HB2.out.size)) ((Below.refl _ _).alloc (Nat.le_refl _) _), by have := hq1.size; omega⟩)
         generalize (w3.alloc (.cells #[.int .i64 z, .slice A3 n c3, .slice none 0 0] 36)) = w5 at *
         generalize w3.heap.size = qb at *)
    clear HK k0 k1 N2 O3
    obtain ⟨g, rfl, hco⟩ := MK.out.co (by omega)
    have CO0 := Lib.hid hco
    clear hco MK
    have k2 := (HCL.out _ CO0.out.below).c2
    go_wp2_with fail
    clear k2
    go_loopw [21] (fun i wr => ∃ (k : Nat) (B' : Option Addr) (d' : Nat), k ≤ m ∧ i = .int .i64 k ∧ Hid (CO W0 (w.heap.size + 1) #[.int .i64 0, .slice none 0 0, .slice none 0 0] qb z g c3 n (unT z n S H k) B' d' (unL z n S H k).length (rowB (unL z n S H k)) wr)) (fun i _ => m - (intOf i).toNat)
    case atStart => exact ⟨0, none, 0, Nat.zero_le _, rfl, CO0⟩
    case round =>
      obtain ⟨k, B', d', hk, rfl, HC⟩ := hrel
      have x0 := HC.out.box.cell 0 _ rfl
      have x1 := HC.out.box.cell 1 _ rfl
      have x2 := HC.out.box.cell 2 _ rfl
      have ff2 := HC.out.box.free 2
      have hszr := HC.out.below.size
      have hLk := unL_len z n S H k
      by_cases hlt : k < m
      · obtain ⟨b, off, rfl, hbl, hcc⟩ := (HCL.out _ HC.out.below).r2 (by omega)
        have hx : wr.cell? ⟨b, off + k, none⟩ = some (.string (H k)) := hcc k hlt
        have hhk := HH.out k hlt
        clear hcc
        cases hO : empO z (H k).data.toList n (unT z n S H k) with
        | some i =>
          obtain ⟨hT, hL⟩ := unT_yes hO
          obtain ⟨hin, _, _⟩ := empO_lt (by omega) hO
          have s0 := HC.out.out.cell hin
          have sf := HC.out.out.frozen i
          go_wp2_with fail
          refine (spec_cuEmpty z n c3 (unT z n S H k) B' (unL z n S H k).length d' (H k) wr (some ⟨g, 0, none⟩) hhk hz HC.out.out.row).mono ?_; rintro e w4 ⟨rfl, hb4⟩
          rw [hO, show valO (some i) = (i : Int) from rfl]
          have HC1 := Lib.hid (HC.out.b hb4)
          have HC2 := Lib.hid (show CO W0 (w.heap.size + 1) #[.int .i64 0, .slice none 0 0, .slice none 0 0] qb z g c3 n (unT z n S H (k + 1)) B' d' (unL z n S H (k + 1)).length (rowB (unL z n S H (k + 1))) (w4.setCell ⟨g, i, none⟩ (.string (H k))) by
            rw [hT, hL]; exact HC1.out.slot i (H k))
          clear hb4 s0 sf
          have s0 := HC1.out.out.cell hin
          have sf := HC1.out.out.frozen i
          have y1 := HC1.out.box.cell 1 _ rfl
          unfold strV at s0
          go_wp2_with fail
          go_roundw
          case rel => exact ⟨k + 1, B', d', by omega, by go_num, HC2⟩
          case measure => simp [intOf]; omega
        | none =>
          obtain ⟨hT, hL⟩ := unT_no hO
          go_wp2_with fail
          refine (spec_cuEmpty z n c3 (unT z n S H k) B' (unL z n S H k).length d' (H k) wr (some ⟨g, 0, none⟩) hhk hz HC.out.out.row).mono ?_; rintro e w4 ⟨rfl, hb4⟩
          rw [hO, show valO none = (-1 : Int) from rfl]
          have HC1 := Lib.hid (HC.out.b hb4)
          clear hb4
          have y0 := HC1.out.box.cell 0 _ rfl
          have y1 := HC1.out.box.cell 1 _ rfl
          have y2 := HC1.out.box.cell 2 _ rfl
          have HV := Lib.hid (show strV (rowB (unL z n S H k ++ [H k])) (unL z n S H k).length = .string (H k) by unfold strV; rw [rowB_new])
          have HR := Lib.hid (row_ext (x := H k) HC1.out.st (Nat.le_refl _))
          have hs4 := HC1.out.below.size
          have hglt := HC1.out.out.lt
          generalize hLL : unL z n S H k = L at *
          go_wp2_with (at_builtin; refine wpList_push4 rfl _ _ 25 rfl W0.heap.size 9 (.string ByteArray.empty) 16 Try.underlying25 infoS rfl B' L.length d' (strV (rowB (L ++ [H k]))) (.string (H k)) w4 rfl HR.out rfl HV.out rfl (by omega) (by omega) hs4 ?_)
          intro A' c' w6 ho6 _ hg6 hat6
          have HAP := Lib.hid (show (Value.slice A' (L.length + 1) c').ownBlock ≠ some g from fun e => by
            rcases hat6 with h6 | h6
            · exact HC1.out.ap (h6.symm.trans e)
            · rw [h6] at e; injection e with e; omega)
          have HX6 := Lib.hid (show NBX W0.heap.size qb #[.int .i64 z, .slice (some ⟨g, 0, none⟩) n c3, .slice B' L.length d'] 36 w6 from ⟨(hg6.block qb (HC1.out.al (.cells #[.string (H k)] 9)).box.lt (fun e => nbx_ne_row HC1.out.box HC1.out.st e.symm)).trans (HC1.out.al (.cells #[.string (H k)] 9)).box.blk, HC1.out.box.ge⟩)
          have HC2 := Lib.hid (show CO W0 (w.heap.size + 1) #[.int .i64 0, .slice none 0 0, .slice none 0 0] qb z g c3 n (unT z n S H (k + 1)) A' c' (unL z n S H (k + 1)).length (rowB (unL z n S H (k + 1))) (w6.setCell ⟨qb, 2, none⟩ (.slice A' (L.length + 1) c')) by
            rw [hT, hL]
            have hl1 : (L ++ [H k]).length = L.length + 1 := by simp
            rw [hl1]
            exact (HC1.out.al (.cells #[.string (H k)] 9)).turn hg6 (by first | exact ho6 | (rw [hsz]; exact ho6)) HAP.out)
          have z0 := HX6.out.cell 2 _ rfl
          have z1 := HX6.out.free 2
          clear ho6 hg6 hat6 y0 y1 y2 x0 x1 x2
          go_wp2_with fail
          go_roundw
          case rel => exact ⟨k + 1, A', c', by omega, by go_num, HC2⟩
          case measure => simp [intOf]; omega
      · obtain rfl : k = m := by omega
        have r0 := HC.out.res.cell 0 _ rfl
        have r1 := HC.out.res.cell 1 _ rfl
        have r2 := HC.out.res.cell 2 _ rfl
        have rf0 := HC.out.res.free 0
        have rf1 := HC.out.res.free 1
        have rf2 := HC.out.res.free 2
        go_wp2_with fail
        refine bodyPost_ret (v := .tuple #[.agg #[.int .i64 z, .slice (some ⟨g, 0, none⟩) n c3, .slice B' (unL z n S H k).length d'], .bool true]) (by simp [results, Try.results43, go_sem, r0, r1, r2]) rfl ?_
        have hF := ((HC.out.resSet 0 (.int .i64 z)).resSet 1 (.slice (some ⟨g, 0, none⟩) n c3)).resSet 2 (.slice B' (unL z n S H k).length d')
        obtain ⟨o1, o2, o3⟩ := hF.fin
        have hle0 : w.heap.size ≤ W0.heap.size := by omega
        exact ⟨_, _, _, _, rfl, o1.mono hle0 (Nat.le_refl _), o2.mono hle0 (Nat.le_refl _), o3, (HB0.out).trans (hF.below.mono hle0)⟩
end
end Go.Proofs.Ytfjimjbndkhkcaa
