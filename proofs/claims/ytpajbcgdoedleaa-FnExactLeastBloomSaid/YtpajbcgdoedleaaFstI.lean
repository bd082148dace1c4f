/- firstIn with any closure that keeps a fact on the world. -/
import Derived.Test.YtpajbcgdoedleaaFindS
import Derived.Test.YtpajbcgdoedleaaObjTch
import Derived.Shelf.Abstract
namespace Go.Proofs.Ytpajbcgdoedleaa
open Go.RowKit

set_option maxRecDepth 100000 in
set_option maxHeartbeats 1000000 in
theorem first_any (g : Nat) (eg : ∀ args w, (callFunc g args).run Try.prog w = .ok (.enter g args) w) (cb : Array Value) (P : Int → Prop) (a b : Int) (I : World → Prop) (w : World) (ha : -1000000 ≤ a) (hab : a ≤ b) (hb : b ≤ 1000000) (hI : I w)
    (hf : ∀ (u : Int) (W : World), a ≤ u → u < b → I W → Calls Try.prog g (#[.int .i64 u] ++ cb) W fun e W' => ∃ r : Bool, e = .returned (.bool r) ∧ (r = true ↔ P u) ∧ I W') :
    Calls Try.prog 81 #[.int .i64 a, .int .i64 b, .func (.func g) #[] cb] w fun e W' => ((∃ v, e = .returned (.tuple #[.int .i64 v, .bool true]) ∧ a ≤ v ∧ v < b ∧ P v ∧ NoneP P a v) ∨ (e = .returned (.tuple #[.int .i64 0, .bool false]) ∧ NoneP P a b)) ∧ I W' := by
  have HF := Lib.hid hf
  have HI := Lib.hid hI
  clear hf hI
  go_enter Try.func81, Try.ntmps81
  go_wp2_with fail
  go_loopw [8] (fun i wr => ∃ u : Int, a ≤ u ∧ u ≤ b ∧ i = .int .i64 u ∧ Hid (NoneP P a u) ∧ Hid (I wr)) (fun i _ => (b - intOf i).toNat)
  case atStart => exact ⟨a, Int.le_refl _, hab, rfl, Lib.hid (fun u g1 g2 => by omega), HI⟩
  case round =>
    obtain ⟨u, hu1, hu2, rfl, HN, HW⟩ := hrel
    by_cases hlt : u < b
    · have d0 : decide (u < b) = true := by simpa using hlt
      have hc := HF.out u wr hu1 hlt HW.out
      go_wp2_with (go_at_fn g; refine hc.mono ?_; rintro e w' ⟨r, rfl, hr, hI2⟩; have I2 := Lib.hid hI2; have HQ := Lib.hid hr; clear hI2 hr)
      · go_ret2
        exact ⟨.inl ⟨u, rfl, hu1, hlt, HQ.out.1 (by assumption), HN.out⟩, I2.out⟩
      · go_roundw
        case rel => exact ⟨u + 1, by omega, by omega, by go_num, Lib.hid (fun v g1 g2 => by
          by_cases e : v = u
          · subst e; intro hp; have := HQ.out.2 hp; simp_all
          · exact HN.out v g1 (by omega)), I2⟩
        case measure => simp [intOf]; omega
    · obtain rfl : u = b := by omega
      have d0 : decide (u < u) = false := by simp
      go_wp2_with fail
      go_ret2
      exact ⟨.inr ⟨rfl, HN.out⟩, HW.out⟩
/-- The boxes of two captured variables. -/
structure Cap2 (w : World) (v0 v1 : Value) (KA : Option Addr) (n : Nat) (S : Nat → ByteArray) (W : World) : Prop where
  below : Below w.heap.size w W
  c0 : W.cell? ⟨w.heap.size, 0, none⟩ = some v0
  c1 : W.cell? ⟨w.heap.size + 1, 0, none⟩ = some v1
  big : w.heap.size + 1 + 1 ≤ W.heap.size
  row : GRow W KA n (strV S)
theorem Cap2.start {w : World} {KA : Option Addr} {n : Nat} {S : Nat → ByteArray} (h : GRow w KA n (strV S)) (v0 v1 : Value) (t0 t1 : TypeId) : Cap2 w v0 v1 KA n S ((w.alloc (.cells #[v0] t0)).alloc (.cells #[v1] t1)) := by
  have hb := (Below.refl w.heap.size w).alloc (Nat.le_refl _) (.cells #[v0] t0)
  have hb2 := (Below.refl (w.alloc (.cells #[v0] t0)).heap.size (w.alloc (.cells #[v0] t0))).alloc (Nat.le_refl _) (.cells #[v1] t1)
  have n0 := (nbx0 w #[v0] t0).b hb2
  have n1 := nbx0 (w.alloc (.cells #[v0] t0)) #[v1] t1
  simp only [World.size_alloc] at n1
  exact ⟨hb.trans (hb2.mono (by simp)), n0.cell 0 _ rfl, n1.cell 0 _ rfl, by simp, (h.al _).al _⟩
theorem Cap2.b {w W W2 : World} {v0 v1 : Value} {KA : Option Addr} {n : Nat} {S : Nat → ByteArray} (h : Cap2 w v0 v1 KA n S W) (hb : Below W.heap.size W W2) : Cap2 w v0 v1 KA n S W2 := by
  have hs := h.big
  exact ⟨h.below.trans (hb.mono (by omega)), (hb.cell (p := ⟨w.heap.size, 0, none⟩) (show w.heap.size < _ by omega)).trans h.c0, (hb.cell (p := ⟨w.heap.size + 1, 0, none⟩) (show w.heap.size + 1 < _ by omega)).trans h.c1, Nat.le_trans hs hb.size, h.row.b hb⟩
end Go.Proofs.Ytpajbcgdoedleaa
