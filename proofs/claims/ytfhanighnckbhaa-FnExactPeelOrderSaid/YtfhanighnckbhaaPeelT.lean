/- What the program's peeling tells and takes: left, edgeAt, takeAway. -/
import Derived.Test.YtfhanighnckbhaaPeelS
import Derived.Test.YtfhanighnckbhaaCont
namespace Go.Proofs.Ytfhanighnckbhaa
open Go.RowKit

/-- The edges below k that are still there. -/
def leftL (G : Nat → Bool) : Nat → List Nat
  | 0 => []
  | k + 1 => if G k then leftL G k else leftL G k ++ [k]
theorem leftL_len (G : Nat → Bool) : ∀ k, (leftL G k).length ≤ k
  | 0 => Nat.le_refl _
  | k + 1 => by
    have := leftL_len G k
    rw [leftL]; split
    · omega
    · simp; omega
theorem mem_leftL {G : Nat → Bool} {x : Nat} : ∀ {k}, x ∈ leftL G k ↔ x < k ∧ G x = false
  | 0 => by simp [leftL]
  | k + 1 => by
    have ih := mem_leftL (G := G) (x := x) (k := k)
    rw [leftL]
    by_cases h : G k = true
    · rw [if_pos h, ih]
      constructor
      · rintro ⟨h1, h2⟩; exact ⟨by omega, h2⟩
      · rintro ⟨h1, h2⟩
        by_cases e : x = k
        · subst e; rw [h] at h2; cases h2
        · exact ⟨by omega, h2⟩
    · rw [if_neg h, List.mem_append, ih, List.mem_singleton]
      constructor
      · rintro (⟨h1, h2⟩ | rfl)
        · exact ⟨by omega, h2⟩
        · exact ⟨by omega, by simpa using h⟩
      · rintro ⟨h1, h2⟩
        by_cases e : x = k
        · exact .inr e
        · exact .inl ⟨by omega, h2⟩
set_option maxRecDepth 100000 in
set_option maxHeartbeats 4000000 in
theorem left_is {w : World} {pb gb db z n c : Nat} {A : Option Addr} {l : Nat → Nat} {X : Nat → Nat → Int} {G : Nat → Bool} (wi : World) (h : PG w pb gb db z n c A l X G wi) (hn : n ≤ 64) :
    Calls Try.prog 75 #[.pointer (some ⟨pb, 0, none⟩)] wi fun e w' => ∃ FA fc, e = .returned (.slice FA (leftL G n).length fc) ∧ w'.ownsRow wi.heap.size 3 1 (.slice FA (leftL G n).length fc) (leftL G n).length (vals (intV (lstV (leftL G n))) (leftL G n).length) ∧ Below wi.heap.size wi w' := by
  have HP := Lib.hid h
  clear h
  obtain ⟨q0, q1, q2⟩ := HP.out.cells
  have hplt := HP.out.box.lt
  go_enter Try.func75, Try.ntmps75
  go_wp2_with fail
  go_loopw [3, 11] (fun v i wr => ∃ (q : Nat) (A1 : Option Addr) (k1 : Nat), q ≤ n ∧ i = .int .i64 q ∧ v = .slice A1 (leftL G q).length k1 ∧ Hid (wr.ownsRow wi.heap.size 3 1 (.slice A1 (leftL G q).length k1) (leftL G q).length (vals (intV (lstV (leftL G q))) (leftL G q).length)) ∧ Hid (Below wi.heap.size wi wr)) (fun _ i _ => n - (intOf i).toNat)
  case atStart => exact ⟨0, none, 0, Nat.zero_le _, rfl, rfl, Lib.hid (World.ownsRow_nil _ _ _ _), Lib.hid (Below.refl _ _)⟩
  case round =>
    obtain ⟨q, A1, k1, hq, rfl, rfl, HO, HL⟩ := hrel
    have hlen := HL.out.size
    have hal := leftL_len G q
    by_cases hlt : q < n
    · have hg := (HP.out.b HL.out).gone.cell hlt
      unfold boolV at hg
      by_cases hc : G q = true
      · have HA := Lib.hid (show leftL G (q + 1) = leftL G q by rw [leftL, if_pos hc])
        rw [hc] at hg
        clear hc
        go_wp2_with fail
        go_roundw
        case rel => exact ⟨q + 1, A1, k1, by omega, by go_num, by rw [HA.out], by rw [HA.out]; exact HO, HL⟩
        case measure => simp [intOf]; omega
      · have HA := Lib.hid (show leftL G (q + 1) = leftL G q ++ [q] by rw [leftL, if_neg hc])
        have HPu := Lib.hid (push_lst (x := q) HO.out)
        have HV := Lib.hid (show intV (lstV (leftL G q ++ [q])) (leftL G q).length = .int .i64 (q : Int) by unfold intV; rw [lstV_new])
        have hcf : G q = false := by simpa using hc
        rw [hcf] at hg
        clear hc hcf
        go_upto_region 6 with fail
        go_wp2_with (at_builtin; refine wpList_push rfl _ _ 47 rfl wi.heap.size 3 (.int .i64 0) 8 Try.underlying47 infoI rfl A1 (leftL G q).length k1 (intV (lstV (leftL G q ++ [q]))) (.int .i64 (q : Int)) _ rfl HPu.out rfl HV.out rfl (by omega) (by omega) (by omega) ?_)
        intro A' c' w5 hown' hb5
        have L5 := Lib.hid (HL.out.trans hb5)
        have hlen1 : (leftL G q).length + 1 = (leftL G (q + 1)).length := by rw [HA.out]; simp
        rw [← HA.out] at hown'
        have HO5 := Lib.hid hown'
        clear hown' hb5 HO HL HPu
        go_wp2_with fail
        go_roundw
        case rel => exact ⟨q + 1, A', c', by omega, by go_num, by rw [← hlen1], by rw [← hlen1]; exact HO5, L5⟩
        case measure => simp [intOf]; omega
    · obtain rfl : q = n := by omega
      go_wp2_with fail
      go_ret
      exact ⟨A1, k1, rfl, HO.out, HL.out⟩
/-- e is the first edge still there that has p. -/
def FirstAt (l : Nat → Nat) (X : Nat → Nat → Int) (G : Nat → Bool) (n p e : Nat) : Prop := e < n ∧ G e = false ∧ (∃ j, j < l e ∧ X e j = (p : Int)) ∧ ∀ i, i < e → G i = true ∨ ¬ ∃ j, j < l i ∧ X i j = (p : Int)
set_option maxRecDepth 100000 in
set_option maxHeartbeats 4000000 in
theorem edgeAt_is {w : World} {pb gb db z n c : Nat} {A : Option Addr} {B : Nat → Option Addr} {l d : Nat → Nat} {X : Nat → Nat → Int} {G : Nat → Bool} (p e : Nat) (wi : World) (hr : HR w A n B l d X) (h : PG w pb gb db z n c A l X G wi) (hn : n ≤ 64) (hl : ∀ i, i < n → l i ≤ 1048576) (he : FirstAt l X G n p e) :
    Calls Try.prog 102 #[.pointer (some ⟨pb, 0, none⟩), .int .i64 p] wi fun en w' => en = .returned (.int .i64 (e : Nat)) ∧ wi = w' := by
  have HR1 := Lib.hid (hr.b h.below)
  obtain ⟨q0, q1, q2⟩ := h.cells
  have hplt := h.box.lt
  have HGn := Lib.hid h.gone
  have HLn := Lib.hid hl
  obtain ⟨he1, he2, he3, he4⟩ := he
  have HE2 := Lib.hid he2
  have HE3 := Lib.hid he3
  have HE4 := Lib.hid he4
  clear hr h hl he2 he3 he4
  go_enter Try.func102, Try.ntmps102
  go_wp2_with fail
  go_loop [5] (fun i => ∃ q : Nat, q ≤ e ∧ i = .int .i64 q) (fun i => (e + 1) - (intOf i).toNat)
  case atStart => exact ⟨0, Nat.zero_le _, rfl⟩
  case round =>
    obtain ⟨q, hq, rfl⟩ := hrel
    have hqn : q < n := by omega
    have hg := HGn.out.cell hqn
    unfold boolV at hg
    obtain ⟨bk, off, rfl, hbl, hc⟩ := HR1.out.1 (by omega)
    have hcq := hc q hqn
    unfold sliceV at hcq
    have HX := Lib.hid (HR1.out.2 q hqn)
    have hlq := HLn.out q hqn
    clear hc
    by_cases hlt : q < e
    · have H4 := Lib.hid (HE4.out q hlt)
      by_cases hgq : G q = true
      · rw [hgq] at hg
        clear hgq
        go_wp2_with fail
        go_round
        case rel => exact ⟨q + 1, by omega, by go_num⟩
        case measure => simp [intOf]; omega
      · have hgf : G q = false := by simpa using hgq
        have HNo := Lib.hid (H4.out.resolve_left hgq)
        rw [hgf] at hg
        clear hgq hgf
        go_wp2_with fail
        refine (contains_is (B q) (l q) (d q) (X q) (p : Int) wi hlq HX.out).mono ?_; rintro e2 w2 ⟨b, rfl, hbb, rfl⟩
        obtain rfl : b = false := by
          cases b with
          | false => rfl
          | true => exact absurd (hbb.1 rfl) HNo.out
        clear hbb
        go_wp2_with fail
        go_round
        case rel => exact ⟨q + 1, by omega, by go_num⟩
        case measure => simp [intOf]; omega
    · obtain rfl : q = e := by omega
      rw [HE2.out] at hg
      go_wp2_with fail
      refine (contains_is (B q) (l q) (d q) (X q) (p : Int) wi hlq HX.out).mono ?_; rintro e2 w2 ⟨b, rfl, hbb, rfl⟩
      have hb1 := hbb.2 HE3.out
      subst hb1
      clear hbb
      go_wp2_with fail
      go_ret
      exact ⟨rfl, rfl⟩
end Go.Proofs.Ytfhanighnckbhaa
