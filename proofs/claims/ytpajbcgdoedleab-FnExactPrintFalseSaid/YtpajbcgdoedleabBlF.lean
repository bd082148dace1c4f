/- falseAnswers for any function value that answers by itself, and the model's fiFalse. -/
import Derived.Test.YtpajbcgdoedleabCtS
import Derived.Test.YtpajbcgdoedleabBlH
import Derived.Shelf.Abstract
namespace Go.Proofs.Ytpajbcgdoedleab
open Go.RowKit

/-- A list of one's own, of the numbers L. -/
def LsIs (L : List Nat) (w : World) (e : Ending) (w' : World) : Prop :=
  ∃ A c, e = .returned (.slice A L.length c) ∧ w'.ownsRow w.heap.size 3 1 (.slice A L.length c) L.length (vals (intV (lstW L)) L.length) ∧ Below w.heap.size w w'
set_option maxRecDepth 100000 in
set_option maxHeartbeats 4000000 in
theorem impl_falseAnswers (g : Nat) (eg : ∀ args w, (callFunc g args).run Try.prog w = .ok (.enter g args) w) {v : Value} {an : Nat → Bool} {KA : Option Addr} {k kc : Nat} {S : Nat → ByteArray} {TA : Option Addr} {t tc : Nat} {T : Nat → ByteArray} {w : World}
    (hk : k ≤ 1048576) (ht : t ≤ 300) (hK : GRow w KA k (strV S)) (hT : GRow w TA t (strV T))
    (hf : ∀ i, i < t → ∀ W, Below w.heap.size w W → Calls Try.prog g #[v, .string (T i)] W fun e w' => e = .returned (.bool (an i)) ∧ Below W.heap.size W w') :
    Calls Try.prog 84 #[.func (.func g) #[v] #[], .slice KA k kc, .slice TA t tc] w (LsIs (flL (fun i => an i && !hasZ S k (T i)) t) w) := by
  have HK := Lib.hid hK
  have HT := Lib.hid hT
  have HF := Lib.hid hf
  clear hK hT hf
  obtain ⟨D, hD⟩ : ∃ D : Nat → Bool, D = (fun i => an i && !hasZ S k (T i)) := ⟨_, rfl⟩
  rw [← hD]
  have HD := Lib.hid hD
  clear hD
  go_enter Try.func84, Try.ntmps84
  go_wp2_with fail
  go_loopw [7, 12] (fun l i wr => ∃ (q : Nat) (A1 : Option Addr) (c1 : Nat), q ≤ t ∧ i = .int .i64 q ∧ l = .slice A1 (flL D q).length c1 ∧ Hid (wr.ownsRow w.heap.size 3 1 (.slice A1 (flL D q).length c1) (flL D q).length (vals (intV (lstW (flL D q))) (flL D q).length)) ∧ Hid (Below w.heap.size w wr)) (fun _ i _ => t - (intOf i).toNat)
  case atStart => exact ⟨0, none, 0, Nat.zero_le _, rfl, rfl, Lib.hid (World.ownsRow_nil _ _ _ _), Lib.hid (Below.refl _ _)⟩
  case round =>
    obtain ⟨q, A1, c1, hq, rfl, rfl, HO, HL⟩ := hrel
    have hal := flL_len D q
    have hLs := HL.out.size
    by_cases hlt : q < t
    · obtain ⟨b, off, hTA, _, hcc⟩ := HT.out.b HL.out (by omega)
      have hx := hcc q hlt
      unfold strV at hx
      have hc := HF.out q hlt wr HL.out
      clear hcc
      subst hTA
      go_wp2_with fail
      refine hc.mono ?_; rintro e w4 ⟨rfl, hb4⟩
      have HO4 := Lib.hid (owned_b HO.out hb4)
      have HL4 := Lib.hid (HL.out.trans (hb4.mono hLs))
      clear hb4 HO
      cases han : an q with
      | false =>
        have HA := Lib.hid (flL_no (T := D) (k := q) (by rw [HD.out]; simp [han]))
        clear han
        go_wp2_with fail
        go_roundw
        case rel => exact ⟨q + 1, A1, c1, by omega, by go_num, by rw [HA.out], by rw [HA.out]; exact HO4, HL4⟩
        case measure => simp [intOf]; omega
      | true =>
        have HKr := Lib.hid (HK.out.b HL4.out)
        go_wp2_with fail
        refine (contains_str hasZ_iff hk HKr.out).mono ?_; rintro e w5 ⟨rfl, rfl⟩
        cases hh : hasZ S k (T q) with
        | true =>
          have HA := Lib.hid (flL_no (T := D) (k := q) (by rw [HD.out]; simp [hh]))
          clear han hh
          go_wp2_with fail
          go_roundw
          case rel => exact ⟨q + 1, A1, c1, by omega, by go_num, by rw [HA.out], by rw [HA.out]; exact HO4, HL4⟩
          case measure => simp [intOf]; omega
        | false =>
          have HA := Lib.hid (flL_yes (T := D) (k := q) (by rw [HD.out]; simp [han, hh]))
          clear han hh
          have HP := Lib.hid (push_lsw (x := q) HO4.out)
          have HW := Lib.hid (show intV (lstW (flL D q ++ [q])) (flL D q).length = .int .i64 (q : Int) by unfold intV; rw [lstW_new])
          have hLs4 := HL4.out.size
          go_wp2_with (at_builtin; refine wpList_push rfl _ _ 22 rfl w.heap.size 3 (.int .i64 0) 8 Try.underlying22 infoI rfl A1 (flL D q).length c1 (intV (lstW (flL D q ++ [q]))) (.int .i64 (q : Int)) w4 rfl HP.out rfl HW.out rfl (by omega) (by omega) hLs4 ?_)
          intro A' c' w6 hown' hb6
          have hlen1 : (flL D q).length + 1 = (flL D (q + 1)).length := by rw [HA.out]; simp
          rw [← HA.out] at hown'
          have HO6 := Lib.hid hown'
          have HL6 := Lib.hid (HL4.out.trans hb6)
          clear hown' hb6 HP HW HO4 HL4
          go_wp2_with fail
          go_roundw
          case rel => exact ⟨q + 1, A', c', by omega, by go_num, by rw [← hlen1], by rw [← hlen1]; exact HO6, HL6⟩
          case measure => simp [intOf]; omega
    · obtain rfl : t = q := by omega
      go_wp2_with fail
      go_ret
      exact ⟨A1, c1, rfl, HO.out, HL.out⟩
section
variable {z0 : Int} {p z : Nat} {A : Option Addr} {n c : Nat} {X : Nat → Int} {w : World} {KA : Option Addr} {k kc : Nat} {S : Nat → ByteArray} {TA : Option Addr} {t tc : Nat} {T : Nat → ByteArray}
/-- What a filter answers to texts. -/
def anB (z0 : Int) (p z : Nat) (X : Nat → Int) (T : Nat → ByteArray) (i : Nat) : Bool := hasP (bitX X) (prN z0 (T i) z) p
end
end Go.Proofs.Ytpajbcgdoedleab
