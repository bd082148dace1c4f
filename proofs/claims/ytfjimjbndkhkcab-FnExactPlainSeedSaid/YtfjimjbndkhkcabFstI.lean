/- firstIn with any closure that keeps a fact on the world. -/
import Derived.Test.YtfjimjbndkhkcabFindS
import Derived.Shelf.Abstract
namespace Go.Proofs.Ytfjimjbndkhkcab
open Go.RowKit

set_option maxRecDepth 100000 in
set_option maxHeartbeats 1000000 in
theorem first_any (g : Nat) (eg : ∀ args w, (callFunc g args).run Try.prog w = .ok (.enter g args) w) (cb : Array Value) (P : Int → Prop) (a b : Int) (I : World → Prop) (w : World) (ha : -1000000 ≤ a) (hab : a ≤ b) (hb : b ≤ 1000000) (hI : I w)
    (hf : ∀ (u : Int) (W : World), a ≤ u → u < b → I W → Calls Try.prog g (#[.int .i64 u] ++ cb) W fun e W' => ∃ r : Bool, e = .returned (.bool r) ∧ (r = true ↔ P u) ∧ I W') :
    Calls Try.prog 30 #[.int .i64 a, .int .i64 b, .func (.func g) #[] cb] w fun e W' => ((∃ v, e = .returned (.tuple #[.int .i64 v, .bool true]) ∧ a ≤ v ∧ v < b ∧ P v ∧ NoneP P a v) ∨ (e = .returned (.tuple #[.int .i64 0, .bool false]) ∧ NoneP P a b)) ∧ I W' := by
  have HF := Lib.hid hf
  have HI := Lib.hid hI
  clear hf hI
  go_enter Try.func30, Try.ntmps30
  go_wp2_with fail
  go_loopw [8] (fun i wr => ∃ u : Int, a ≤ u ∧ u ≤ b ∧ i = .int .i64 u ∧ Hid (NoneP P a u) ∧ Hid (I wr)) (fun i _ => (b - intOf i).toNat)
  case atStart => exact ⟨a, Int.le_refl _, hab, rfl, Lib.hid (fun u g1 g2 => by omega), HI⟩
  case round =>
    obtain ⟨u, hu1, hu2, rfl, HN, HW⟩ := hrel
    by_cases hlt : u < b
    · have d0 : decide (u < b) = true := by simpa using hlt
      have hc := HF.out u wr hu1 hlt HW.out
      go_wp2_with (go_at_fn g; refine hc.mono ?_; rintro e w' ⟨r, rfl, hr, hI2⟩; have I2 := Lib.hid hI2; have HQ := Lib.hid hr; clear hI2 hr)
      · go_ret2
        exact ⟨.inl ⟨u, rfl, hu1, hlt, HQ.out.1 (by assumption), HN.out⟩, I2.out⟩
      · go_roundw
        case rel => exact ⟨u + 1, by omega, by omega, by go_num, Lib.hid (fun v g1 g2 => by
          by_cases e : v = u
          · subst e; intro hp; have := HQ.out.2 hp; simp_all
          · exact HN.out v g1 (by omega)), I2⟩
        case measure => simp [intOf]; omega
    · obtain rfl : u = b := by omega
      have d0 : decide (u < u) = false := by simp
      go_wp2_with fail
      go_ret2
      exact ⟨.inr ⟨rfl, HN.out⟩, HW.out⟩
end Go.Proofs.Ytfjimjbndkhkcab
