/- CollisionOf: the program's and the model's. -/
import Derived.Test.YtfjimjbndkhkcabLoads
namespace Go.Proofs.Ytfjimjbndkhkcab
open Go.RowKit

def seek (F : Nat → Int) (x : Int) : Nat → Nat → Option Nat
  | _, 0 => none
  | a, m + 1 => if F a = x then some a else seek F x (a + 1) m
def coll (F : Nat → Int) : Nat → Nat → Option (Nat × Nat)
  | _, 0 => none
  | i, m + 1 => match seek F (F i) (i + 1) m with
    | some k => some (i, k)
    | none => coll F (i + 1) m
theorem seek_hit {F : Nat → Int} {x : Int} {k n : Nat} (hk : k < n) (h : F k = x) : seek F x k (n - k) = some k := by
  obtain ⟨m, hm⟩ : ∃ m, n - k = m + 1 := ⟨n - k - 1, by omega⟩
  rw [hm, seek, if_pos h]
theorem seek_miss {F : Nat → Int} {x : Int} {k n : Nat} (hk : k < n) (h : F k ≠ x) : seek F x k (n - k) = seek F x (k + 1) (n - (k + 1)) := by
  obtain ⟨m, hm⟩ : ∃ m, n - k = m + 1 := ⟨n - k - 1, by omega⟩
  rw [hm, seek, if_neg h, show n - (k + 1) = m by omega]
theorem seek_end (F : Nat → Int) (x : Int) (n : Nat) : seek F x n (n - n) = none := by rw [Nat.sub_self, seek]
theorem seek_lt {F : Nat → Int} {x : Int} : ∀ {m a k}, seek F x a m = some k → k < a + m := by
  intro m
  induction m with
  | zero => intro a k h; simp [seek] at h
  | succ m ih =>
    intro a k h
    simp only [seek] at h
    split at h
    · injection h with h; omega
    · have := ih h; omega
theorem seek_shift (F : Nat → Int) (x : Int) (a : Nat) : ∀ m b, seek F x (a + b) m = (seek (fun j => F (a + j)) x b m).map (a + ·) := by
  intro m
  induction m with
  | zero => intro b; rfl
  | succ m ih =>
    intro b
    simp only [seek]
    by_cases h : F (a + b) = x
    · simp [h]
    · simp only [h, if_false]
      rw [Nat.add_assoc, ih]
theorem coll_hit {F : Nat → Int} {i k n : Nat} (hi : i < n) (h : seek F (F i) (i + 1) (n - (i + 1)) = some k) : coll F i (n - i) = some (i, k) := by
  obtain ⟨m, hm⟩ : ∃ m, n - i = m + 1 := ⟨n - i - 1, by omega⟩
  rw [show n - (i + 1) = m by omega] at h
  rw [hm, coll, h]
theorem coll_miss {F : Nat → Int} {i n : Nat} (hi : i < n) (h : seek F (F i) (i + 1) (n - (i + 1)) = none) : coll F i (n - i) = coll F (i + 1) (n - (i + 1)) := by
  obtain ⟨m, hm⟩ : ∃ m, n - i = m + 1 := ⟨n - i - 1, by omega⟩
  rw [show n - (i + 1) = m by omega] at h
  rw [hm, coll, h, show n - (i + 1) = m by omega]
theorem coll_end (F : Nat → Int) (n : Nat) : coll F n (n - n) = none := by rw [Nat.sub_self, coll]
def collV (o : Option (Nat × Nat)) : Value := match o with
  | some (i, k) => .tuple #[.int .i64 i, .int .i64 k, .bool true]
  | none => .tuple #[.int .i64 0, .int .i64 0, .bool false]
def seekI (o : Option Nat) : Int := match o with
  | some k => k
  | none => -1
def CollOk (seed part : Int) (S : Nat → ByteArray) (n : Nat) (P : Int) : Prop := seedB seed part = true ∧ keysB S n = true ∧ 1 ≤ P ∧ P ≤ 4096

set_option maxHeartbeats 1000000 in
theorem index_is (A : Option Addr) (m c : Nat) (G : Nat → Int) (x : Int) (w : World) (hm : m ≤ 1048576) (hr : GRow w A m (intV G)) :
    Calls Try.prog 59 #[.slice A m c, .int .i64 x] w fun e w' => e = .returned (.int .i64 (seekI (seek G x 0 m))) ∧ w = w' := by
  have HR := Lib.hid hr
  clear hr
  go_enter Try.func59, Try.ntmps59
  go_wp2_with fail
  go_loop [8] (fun i => ∃ k : Nat, k ≤ m ∧ i = .int .i64 k ∧ Hid (seek G x k (m - k) = seek G x 0 m)) (fun i => m - (intOf i).toNat)
  case atStart => exact ⟨0, Nat.zero_le _, rfl, rfl⟩
  case round =>
    obtain ⟨k, hk, rfl, hp⟩ := hrel
    by_cases hlt : k < m
    · obtain ⟨b, off, rfl, _, hc⟩ := HR.out (by omega)
      have hck := hc k hlt
      unfold intV at hck
      clear hc
      by_cases e : G k = x
      · have b1 : (x == G k) = true := by simpa using e.symm
        have hz := Lib.hid (show seekI (seek G x 0 m) = (k : Int) by rw [← hp.out, seek_hit hlt e]; rfl)
        clear e
        go_wp2_with fail
        go_ret
        exact ⟨by rw [hz.out]; rfl, rfl⟩
      · have b1 : (x == G k) = false := by simpa using fun h => e h.symm
        have hq : Hid (seek G x (k + 1) (m - (k + 1)) = seek G x 0 m) := by show _ = _; rw [← seek_miss hlt e]; exact hp.out
        clear e
        go_wp2_with fail
        go_round
        case rel => exact ⟨k + 1, by omega, by go_num, hq⟩
        case measure => simp [intOf]; omega
    · obtain rfl : k = m := by omega
      have hz := Lib.hid (show seekI (seek G x 0 k) = -1 by rw [← hp.out, seek_end]; rfl)
      go_wp2_with fail
      go_ret
      exact ⟨by rw [hz.out]; rfl, rfl⟩

set_option maxRecDepth 100000 in
set_option maxHeartbeats 1000000 in
theorem impl_coll_yes (seed part : Int) (P : Nat) (A : Option Addr) (n c : Nat) (S : Nat → ByteArray) (w : World) (hn : n ≤ 1048576) (hs : ∀ i, i < n → (S i).size ≤ maxLen) (hr : GRow w A n (strV S)) (h : CollOk seed part S n P) :
    Calls Try.prog 38 #[.int .i64 seed, .int .i64 part, .slice A n c, .int .i64 P] w fun e w' => e = .returned (collV (coll (plF seed part S P) 0 n)) ∧ Below w.heap.size w w' := by
  obtain ⟨hsd, hk, h1, h2⟩ := h
  have n40 := keysB_size hk
  have HR := Lib.hid hr
  have HS := Lib.hid hs
  clear hr hs
  have hmk := fun W => run_make_row' (P := Try.prog) 31 3 (.int .i64 0) 8 Try.underlying31 infoI rfl .i64 .i64 n (by omega) (by omega) W
  go_enter Try.func38, Try.ntmps38
  go_wp2_with fail
  refine (impl_isHashNumber seed part _).mono ?_; rintro e w' ⟨rfl, rfl⟩
  rw [hsd]
  go_wp2_with fail
  refine (impl_areKeys A n c S _ hn HS.out HR.out).mono ?_; rintro e w' ⟨rfl, rfl⟩
  rw [hk]
  go_wp2_with fail
  go_loopw [39] (fun i wr => ∃ k : Nat, k ≤ n ∧ i = .int .i64 k ∧ ORow wr w.heap.size n (fun p => if p < k then plF seed part S P p else 0) ∧ Below w.heap.size w wr) (fun i _ => n - (intOf i).toNat)
  case atStart => exact ⟨0, Nat.zero_le _, rfl, (ORow.made _ _).congr (fun _ _ => by simp), (Below.refl _ _).alloc (Nat.le_refl _) _⟩
  case round =>
    obtain ⟨k, hk', rfl, ho, hb⟩ := hrel
    by_cases hlt : k < n
    · obtain ⟨b, off, rfl, _, hc⟩ := HR.out.below hb (Nat.le_refl _) (by omega)
      have hck := hc k hlt
      have hsk := HS.out k hlt
      unfold strV at hck
      have hx := ho.cell hlt
      have hf := ho.frozen k
      rw [if_neg (Nat.lt_irrefl k)] at hx
      have HC := Lib.hid (impl_placeKey seed part P (S k) wr hsk hsd (by omega) (by omega))
      have HO := Lib.hid ho
      have HB := Lib.hid hb
      clear hc ho hb
      go_wp2_with fail
      refine HC.out.mono ?_; rintro e w' ⟨rfl, rfl⟩
      go_wp2_with fail
      go_roundw
      case rel =>
        refine ⟨k + 1, by omega, by go_num, (HO.out.set k (plF seed part S P k)).congr (fun j hj => ?_), HB.out.setCell (Nat.le_refl _) _⟩
        by_cases e : j = k
        · subst e; simp
        · by_cases e2 : j < k <;> simp [e, e2] <;> omega
      case measure => simp [intOf]; omega
    · obtain rfl : k = n := by omega
      have HO := Lib.hid (ho.congr (Y := plF seed part S P) (fun j hj => by simp [hj]))
      have HB := Lib.hid hb
      clear ho hb
      generalize hF : plF seed part S P = F at *
      go_wp2_with fail
      go_loopw [55] (fun i wr => ∃ j : Nat, j ≤ k ∧ i = .int .i64 j ∧ ORow wr w.heap.size k F ∧ Below w.heap.size w wr ∧ Hid (coll F j (k - j) = coll F 0 k)) (fun i _ => k - (intOf i).toNat)
      case atStart => exact ⟨0, Nat.zero_le _, rfl, HO.out, HB.out, rfl⟩
      case round =>
        obtain ⟨j, hj', rfl, ho, hb, hp⟩ := hrel
        by_cases hlt : j < k
        · have hx := ho.cell hlt
          have HO2 := Lib.hid ho
          have HB2 := Lib.hid hb
          clear ho hb HO HB
          by_cases hca : k = j + 1
          · subst hca
            have hq : Hid (coll F (j + 1) (j + 1 - (j + 1)) = coll F 0 (j + 1)) := by
              show _ = _; rw [← coll_miss hlt (by rw [Nat.sub_self]; rfl)]; exact hp.out
            go_wp2_with fail
            refine (index_is _ 0 _ (fun _ => 0) (F j) _ (by omega) (fun h => absurd h (by omega))).mono ?_; rintro e w' ⟨rfl, rfl⟩
            rw [show seekI (seek (fun _ => 0) (F j) 0 0) = -1 from rfl]
            go_wp2_with fail
            go_roundw
            case rel => first | exact ⟨j + 1, by omega, by go_num, HO2.out, HB2.out, hq⟩ | ((repeat apply Exists.intro); exact ⟨⟨j + 1, Nat.le_refl _, rfl, HO2.out, HB2.out, hq⟩, rfl⟩)
            case measure => first | (simp [intOf]; done) | (simp [intOf]; omega)
          · have hrow : GRow wr (some ⟨w.heap.size, j + 1, none⟩) (k - (j + 1)) (intV fun i => F (j + 1 + i)) := fun _ => ⟨w.heap.size, j + 1, rfl, HO2.out.lt, fun i hi => HO2.out.cell (by omega)⟩
            have hI := index_is _ (k - (j + 1)) (k - (j + 1)) _ (F j) wr (by omega) hrow
            have hsh := seek_shift F (F j) (j + 1) (k - (j + 1)) 0
            rw [Nat.add_zero] at hsh
            cases hsk : seek (fun i => F (j + 1 + i)) (F j) 0 (k - (j + 1)) with
            | none =>
              rw [hsk] at hI hsh
              have hq : Hid (coll F (j + 1) (k - (j + 1)) = coll F 0 k) := by
                show _ = _; rw [← coll_miss hlt hsh]; exact hp.out
              have HI := Lib.hid hI
              clear hI hrow hsh hsk
              go_wp2_with fail
              refine HI.out.mono ?_; rintro e w' ⟨rfl, rfl⟩
              rw [show seekI none = -1 from rfl]
              go_wp2_with fail
              go_roundw
              case rel => exact ⟨j + 1, by omega, by go_num, HO2.out, HB2.out, hq⟩
              case measure => simp [intOf]; omega
            | some q =>
              have hqb : q < 40 := by have := seek_lt hsk; omega
              rw [hsk] at hI hsh
              have hz := Lib.hid (show collV (coll F 0 k) = .tuple #[.int .i64 j, .int .i64 ((j : Int) + 1 + q), .bool true] by
                rw [← hp.out, coll_hit hlt hsh]; rfl)
              have HI := Lib.hid hI
              clear hI hrow hsh hsk
              go_wp2_with fail
              refine HI.out.mono ?_; rintro e w' ⟨rfl, rfl⟩
              rw [show seekI (some q) = (q : Int) from rfl]
              go_wp2_with fail
              refine bodyPost_ret (v := .tuple #[.int .i64 j, .int .i64 ((j : Int) + 1 + q), .bool true]) (by simp [results, Try.results38, go_sem]) rfl ?_
              exact ⟨by rw [hF, hz.out], HB2.out⟩
        · obtain rfl : j = k := by omega
          have hz := Lib.hid (show collV (coll F 0 j) = collV none by rw [← hp.out, coll_end])
          go_wp2_with fail
          refine bodyPost_ret (v := .tuple #[.int .i64 0, .int .i64 0, .bool false]) (by simp [results, Try.results38, go_sem]) rfl ?_
          exact ⟨by first | (rw [hz.out]; rfl) | (rw [hF, hz.out]; rfl), hb⟩
def NoPair (w : World) (e : Ending) (w' : World) : Prop := e = .returned (.tuple #[.int .i64 0, .int .i64 0, .bool false]) ∧ w = w'
set_option maxRecDepth 100000 in
set_option maxHeartbeats 1000000 in
theorem impl_coll_no (seed part P : Int) (A : Option Addr) (n c : Nat) (S : Nat → ByteArray) (w : World) (hn : n ≤ 1048576) (hs : ∀ i, i < n → (S i).size ≤ maxLen) (hr : GRow w A n (strV S)) (h : ¬ CollOk seed part S n P) :
    Calls Try.prog 38 #[.int .i64 seed, .int .i64 part, .slice A n c, .int .i64 P] w (NoPair w) := by
  have HR := Lib.hid hr
  have HS := Lib.hid hs
  have H := Lib.hid h
  clear hr hs h
  cases hsd : seedB seed part with
  | false =>
    go_enter Try.func38, Try.ntmps38
    go_wp2_with fail
    refine (impl_isHashNumber seed part _).mono ?_; rintro e w' ⟨rfl, rfl⟩
    rw [hsd]
    go_wp2_with fail
    refine bodyPost_ret (v := .tuple #[.int .i64 0, .int .i64 0, .bool false]) (by simp [results, Try.results38, go_sem]) rfl ?_
    exact ⟨rfl, rfl⟩
  | true =>
    cases hk : keysB S n with
    | false =>
      go_enter Try.func38, Try.ntmps38
      go_wp2_with fail
      refine (impl_isHashNumber seed part _).mono ?_; rintro e w' ⟨rfl, rfl⟩
      rw [hsd]
      go_wp2_with fail
      refine (impl_areKeys A n c S _ hn HS.out HR.out).mono ?_; rintro e w' ⟨rfl, rfl⟩
      rw [hk]
      go_wp2_with fail
      refine bodyPost_ret (v := .tuple #[.int .i64 0, .int .i64 0, .bool false]) (by simp [results, Try.results38, go_sem]) rfl ?_
      exact ⟨rfl, rfl⟩
    | true =>
      by_cases h1 : 1 ≤ P
      · have h2 : (4096 : Int) < P := by
          have h3 : ¬ (P ≤ 4096) := fun h3 => H.out ⟨hsd, hk, h1, h3⟩
          omega
        have b1 : decide (P < 1) = false := by simp; omega
        have b2 : decide (4096 < P) = true := by simpa using h2
        go_enter Try.func38, Try.ntmps38
        go_wp2_with fail
        refine (impl_isHashNumber seed part _).mono ?_; rintro e w' ⟨rfl, rfl⟩
        rw [hsd]
        go_wp2_with fail
        refine (impl_areKeys A n c S _ hn HS.out HR.out).mono ?_; rintro e w' ⟨rfl, rfl⟩
        rw [hk]
        go_wp2_with fail
        refine bodyPost_ret (v := .tuple #[.int .i64 0, .int .i64 0, .bool false]) (by simp [results, Try.results38, go_sem]) rfl ?_
        exact ⟨rfl, rfl⟩
      · have b1 : decide (P < 1) = true := by simp; omega
        go_enter Try.func38, Try.ntmps38
        go_wp2_with fail
        refine (impl_isHashNumber seed part _).mono ?_; rintro e w' ⟨rfl, rfl⟩
        rw [hsd]
        go_wp2_with fail
        refine (impl_areKeys A n c S _ hn HS.out HR.out).mono ?_; rintro e w' ⟨rfl, rfl⟩
        rw [hk]
        go_wp2_with fail
        refine bodyPost_ret (v := .tuple #[.int .i64 0, .int .i64 0, .bool false]) (by simp [results, Try.results38, go_sem]) rfl ?_
        exact ⟨rfl, rfl⟩

end Go.Proofs.Ytfjimjbndkhkcab
