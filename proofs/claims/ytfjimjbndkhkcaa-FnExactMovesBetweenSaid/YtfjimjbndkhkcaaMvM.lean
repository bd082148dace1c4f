/- MovesBetween: the model's. -/
import Derived.Test.YtfjimjbndkhkcaaMvP
import Derived.BigQuiet
import Derived.Deep.DeepCutAuto
namespace Go.Proofs.Ytfjimjbndkhkcaa
open Go.RowKit

theorem own_setQ {w : World} {B n g i : Nat} {e : TypeId} {v u : Value} {xs : List Value} (h : w.ownsRow B e 1 v n xs) (hg : g < B) : (w.setCell ⟨g, i, none⟩ u).ownsRow B e 1 v n xs :=
  h.kept (grown_setCell (World.grownBy.refl w (some g)) i u) (by
    rcases h.2 with ⟨rfl, _⟩ | ⟨g', cap, cur, rfl, hg', _⟩
    · simp [Value.ownBlock]
    · simp [Value.ownBlock]; omega)
def MvRes (ok : Prop) (T F : Nat → Int) (n : Nat) (w : World) (e : Ending) (w' : World) : Prop :=
  (ok ∧ MvIs T F n w e w') ∨ (¬ ok ∧ e = .returned (.tuple #[.slice none 0 0, .bool false]) ∧ Below w.heap.size w w')
def MvGood (z P : Int) (n : Nat) (S : Nat → ByteArray) (m : Nat) (F : Nat → Int) (q : Nat) (T : Nat → Int) : Prop := (sizeB z P && keysB S n) = true ∧ PlP (celV2 z P S) n F m ∧ PlP (celV2 z P S) n T q
/-- What holds while the moves are made. -/
structure MQ (w : World) (B1 B2 : Nat) (NA : Option Addr) (n : Nat) (T F : Nat → Int) (k : Nat) (A : Option Addr) (c : Nat) (wr : World) : Prop where
  all : MvAll T F n k
  df : k + dfN T (mvS T F n k) n ≤ n
  out : wr.ownsRow B2 3 1 (.slice A k c) k (vals (intV (mvL T F n)) k)
  now : NowQ B1 B2 NA n (mvS T F n k) wr
  below : Below w.heap.size w wr
  lo : w.heap.size ≤ B1 ∧ B1 ≤ B2 ∧ B2 ≤ wr.heap.size
theorem MQ.b {w wr wj : World} {B1 B2 n k c : Nat} {NA A : Option Addr} {T F : Nat → Int} (h : MQ w B1 B2 NA n T F k A c wr) (hb : Below wr.heap.size wr wj) : MQ w B1 B2 NA n T F k A c wj :=
  ⟨h.all, h.df, owned_b h.out hb, h.now.b hb, h.below.trans (hb.mono h.below.size), h.lo.1, h.lo.2.1, Nat.le_trans h.lo.2.2 hb.size⟩
theorem MQ.k_le {w wr : World} {B1 B2 n k c : Nat} {NA A : Option Addr} {T F : Nat → Int} (h : MQ w B1 B2 NA n T F k A c wr) : k ≤ n := by have := h.df; omega
/-- A key moves: its cell is stored, its number goes behind the list. -/
theorem MQ.move {w wr : World} {B1 B2 n k c g i : Nat} {NA A : Option Addr} {T F : Nat → Int} (h : MQ w B1 B2 NA n T F k A c wr) (hi : IsNx T (mvS T F n k) n i) (hg : NA = some ⟨g, 0, none⟩) :
    w.heap.size ≤ g ∧ g < B2 ∧ (wr.setCell ⟨g, i, none⟩ (.int .i64 (T i))).ownsRow B2 3 1 (.slice A k c) k (vals (intV (mvL T F n)) k) ∧ NowQ B1 B2 NA n (mvS T F n (k + 1)) (wr.setCell ⟨g, i, none⟩ (.int .i64 (T i))) ∧ Below w.heap.size w (wr.setCell ⟨g, i, none⟩ (.int .i64 (T i))) := by
  have hlo := h.lo
  obtain ⟨_, _, e2, _⟩ := mv_next h.all hi h.df
  obtain ⟨g', e, h1, h2, ho⟩ := h.now (by have := hi.1; omega)
  rw [hg] at e
  injection e with e; injection e with e _ _
  subst e
  refine ⟨by omega, h2, own_setQ h.out h2, fun _ => ⟨g, hg, h1, h2, ?_⟩, below_setAt h.below (by omega) _⟩
  rw [e2]
  exact (ho.set i (T i)).congr (fun j _ => rfl)
theorem MQ.push {w wr w6 w7 : World} {B1 B2 n k c c' i : Nat} {NA A A' : Option Addr} {T F : Nat → Int} (h : MQ w B1 B2 NA n T F k A c wr) (hi : IsNx T (mvS T F n k) n i)
    (h1 : w6.ownsRow B2 3 1 (.slice A k c) k (vals (intV (mvL T F n)) k)) (h2 : NowQ B1 B2 NA n (mvS T F n (k + 1)) w6) (h3 : Below w.heap.size w w6) (h4 : w6.heap.size = wr.heap.size)
    (ho : w7.ownsRow B2 3 1 (.slice A' (k + 1) c') (k + 1) (vals (intV (mvL T F n)) (k + 1))) (hg : (w6.alloc (.cells #[.int .i64 (i : Int)] 3)).grownBy w7 (Value.slice A k c).ownBlock) : MQ w B1 B2 NA n T F (k + 1) A' c' w7 := by
  have hlo := h.lo
  have hB := (Below.refl w6.heap.size w6).alloc (Nat.le_refl _) (.cells #[.int .i64 (i : Int)] 3)
  obtain ⟨a1, _, _, a4⟩ := mv_next h.all hi h.df
  have hs := hB.size
  have hs2 := hg.size
  exact ⟨a1, a4, ho, (h2.b hB).grown (owned_b h1 hB) (Nat.le_refl _) hg, (h3.trans (hB.mono (by omega))).trans ⟨hg.os, hg.tape, hg.output, hg.size, fun x hx => hg.block x (by have := h3.size; omega) (fun e => by have := ((owned_b h1 hB).lt x e.symm).1; omega)⟩, hlo.1, hlo.2.1, by omega⟩
theorem MQ.done {w wr : World} {B1 B2 n k c : Nat} {NA A : Option Addr} {T F : Nat → Int} (h : MQ w B1 B2 NA n T F k A c wr) (hs : ∀ i, i < n → mvS T F n k i = T i) : MvIs T F n w (.returned (.tuple #[.slice A k c, .bool true])) wr :=
  ⟨k, ⟨h.all, mv_same hs⟩, h.k_le, h.below, .inl ⟨hs, A, c, rfl, owned_low h.out (by have := h.lo; omega)⟩⟩
theorem MQ.stuck {w wr : World} {B1 B2 n k c : Nat} {NA A : Option Addr} {T F : Nat → Int} (h : MQ w B1 B2 NA n T F k A c wr) (hs : ¬ ∀ i, i < n → mvS T F n k i = T i) (hm : ∀ i, i < n → ¬ MvOk T (mvS T F n k) n i) : MvIs T F n w (.returned (.tuple #[.slice none 0 0, .bool false])) wr :=
  ⟨k, ⟨h.all, hm⟩, h.k_le, h.below, .inr ⟨hs, rfl⟩⟩
set_option maxRecDepth 100000 in
set_option maxHeartbeats 4000000 in
theorem spec_moves (z P : Int) (KA : Option Addr) (n kc : Nat) (S : Nat → ByteArray) (FA : Option Addr) (m : Nat) (F : Nat → Int) (EA : Option Addr) (q : Nat) (T : Nat → Int) (w : World) (hn : n ≤ 1048576) (hs : ∀ i, i < n → (S i).size ≤ maxLen) (hr : GRow w KA n (strV S)) (hm : m ≤ 1048576) (hf : IRow w FA m F) (hq : q ≤ 1048576) (he : IRow w EA q T) :
    Calls Try.prog 49 #[.int .i64 z, .slice KA n kc, .int .i64 P, .slice FA m m, .slice EA q q] w (MvRes (MvGood z P n S m F q T) T F n w) := by
  have HR := Lib.hid hr
  have HS := Lib.hid hs
  have HF := Lib.hid hf
  have HE := Lib.hid he
  clear hr hs hf he
  cases hk : (sizeB z P && keysB S n) with
  | false =>
    go_enter Try.func49, Try.ntmps49
    go_wp2_with fail
    refine (spec_cuKeyed z P KA n kc S _ hn HS.out HR.out).mono ?_; rintro e w' ⟨rfl, rfl⟩
    rw [hk]
    go_wp2_with fail
    go_ret2
    exact .inr ⟨fun h => absurd (hk.symm.trans h.1) (by simp), rfl, Below.refl _ _⟩
  | true =>
    have hz : sizeB z P = true := by simp only [Bool.and_eq_true] at hk; exact hk.1
    have hn40 : n ≤ 40 := by simp only [Bool.and_eq_true] at hk; exact keysB_size hk.2
    go_enter Try.func49, Try.ntmps49
    go_wp2_with fail
    refine (spec_cuKeyed z P KA n kc S _ hn HS.out HR.out).mono ?_; rintro e w' ⟨rfl, rfl⟩
    rw [hk]
    go_wp2_with fail
    refine (spec_cuPairs z P KA n kc S _ hn HS.out HR.out hz).mono ?_; rintro e w2 ⟨A, c, G, rfl, hp, hb⟩
    have HP := Lib.hid hp
    have HB := Lib.hid hb
    have HF2 := Lib.hid (HF.out.b hb)
    have HE2 := Lib.hid (HE.out.b hb)
    clear hp hb
    go_wp2_with fail
    refine (spec_cuPlaced A n c G _ FA m m F _ hn hm (Nat.le_refl _) HP.out HF2.out).mono ?_; rintro e w3 ⟨b, rfl, hb, rfl⟩
    cases b with
    | false =>
      have HX := Lib.hid (show ¬ MvGood z P n S m F q T from fun h => by have := hb.2 h.2.1; cases this)
      clear hb
      go_wp2_with fail
      go_ret2
      exact .inr ⟨HX.out, rfl, HB.out⟩
    | true =>
      have H1 := Lib.hid (hb.1 rfl)
      clear hb
      go_wp2_with fail
      refine (spec_cuPlaced A n c G _ EA q q T _ hn hq (Nat.le_refl _) HP.out HE2.out).mono ?_; rintro e w3 ⟨b, rfl, hb, rfl⟩
      cases b with
      | false =>
        have HX := Lib.hid (show ¬ MvGood z P n S m F q T from fun h => by have := hb.2 h.2.2; cases this)
        clear hb
        go_wp2_with fail
        go_ret2
        exact .inr ⟨HX.out, rfl, HB.out⟩
      | true =>
        have H2 := Lib.hid (hb.1 rfl)
        have HG := Lib.hid (show MvGood z P n S m F q T from ⟨hk, H1.out, H2.out⟩)
        clear hb
        obtain rfl : m = n := H1.out.1
        obtain rfl : q = m := H2.out.1
        have hs1 := HB.out.size
        go_wp2_with fail
        refine (spec_l1OwnQ FA q q F _ (by omega) HF2.out).mono ?_; rintro e w3 ⟨NA, nc, rfl, ho, hb⟩
        have hs2 := hb.size
        have HE3 := Lib.hid (HE2.out.b hb)
        have HB3 := Lib.hid (HB.out.trans (hb.mono hs1))
        have M0 := Lib.hid (show MQ w w2.heap.size w3.heap.size NA q T F 0 none 0 w3 from ⟨fun j hj => absurd hj (by omega), by have := dfN_le T F q; show 0 + dfN T F q ≤ q; omega, World.ownsRow_nil _ _ _ _, nowQ_of ho, HB3.out, hs1, hs2, Nat.le_refl _⟩)
        clear ho hb
        go_wp2_with fail
        go_loopw [14] (fun v wr => ∃ (k : Nat) (A : Option Addr) (c : Nat), v = .slice A k c ∧ k ≤ q ∧ Hid (MQ w w2.heap.size w3.heap.size NA q T F k A c wr)) (fun v _ => q - lenQ v)
        case atStart => exact ⟨0, none, 0, rfl, by omega, M0⟩
        case round =>
          obtain ⟨k, A, c, rfl, hkq, HM⟩ := hrel
          have HEr := Lib.hid (HE.out.b HM.out.below)
          go_wp2_with fail
          refine (spec_l1Same NA EA q nc q q (mvS T F q k) T _ (by omega) (by omega) HM.out.now.row HEr.out).mono ?_; rintro e w4 ⟨b, rfl, hsm, hb⟩
          have HM4 := Lib.hid (HM.out.b hb)
          clear hb
          cases b with
          | true =>
            have HSm := Lib.hid (hsm.1 rfl).2
            clear hsm
            go_wp2_with fail
            go_ret2
            exact .inl ⟨HG.out, HM4.out.done HSm.out⟩
          | false =>
            have HSm := Lib.hid (show ¬ ∀ i, i < q → mvS T F q k i = T i from fun h => by have := hsm.2 ⟨rfl, h⟩; cases this)
            clear hsm
            go_wp2_with fail
            go_loopw [15, 44] (fun v i wr => ∃ u : Nat, u ≤ q ∧ i = .int .i64 u ∧ Hid (MQ w w2.heap.size w3.heap.size NA q T F k A c wr) ∧ ((v = .int .i64 (-1) ∧ Hid (∀ j, j < u → ¬ MvOk T (mvS T F q k) q j)) ∨ ∃ x : Nat, v = .int .i64 x ∧ Hid (IsNx T (mvS T F q k) q x))) (fun _ i _ => q - (intOf i).toNat)
            case atStart => exact ⟨0, by omega, rfl, HM4, .inl ⟨rfl, Lib.hid (fun j hj => absurd hj (by omega))⟩⟩
            case round =>
              obtain ⟨u, hu, rfl, HM5, hor⟩ := hrel
              have HE5 := Lib.hid (HE.out.b HM5.out.below)
              by_cases hlt : u < q
              · obtain ⟨b, off, hEA, _, hce⟩ := HE5.out (by omega)
                obtain ⟨g, hNA, _, _, hO⟩ := HM5.out.now (by omega)
                have hy := hce u hlt
                have hx := hO.cell hlt
                clear hce hO
                subst hEA hNA
                rcases hor with ⟨rfl, HN⟩ | ⟨x, rfl, HI⟩
                · by_cases hXT : mvS T F q k u = T u
                  · have d1 : (mvS T F q k u != T u) = false := by simpa using hXT
                    have HN2 := Lib.hid (show ∀ j, j < u + 1 → ¬ MvOk T (mvS T F q k) q j from fun j hj => by
                      by_cases e : j = u
                      · subst e; exact fun h => h j hlt hXT
                      · exact HN.out j (by omega))
                    clear hXT
                    go_wp2_with fail
                    go_quiet (fail)
                    go_wp2_with fail
                    go_roundw
                    case rel => exact ⟨u + 1, by omega, by go_num, Lib.hid (HM5.out.b (below_drewN (Below.refl _ _) _)), .inl ⟨rfl, HN2⟩⟩
                    case measure => simp [intOf]; omega
                  · have d1 : (mvS T F q k u != T u) = true := by simpa using hXT
                    have HC := Lib.hid (fun W (hr : IRow W (some ⟨g, 0, none⟩) q (mvS T F q k)) => spec_l1Has (some ⟨g, 0, none⟩) q nc (mvS T F q k) (T u) W (by omega) hr)
                    have HRw := Lib.hid HM5.out.now.row
                    clear hXT
                    by_cases hM : MvOk T (mvS T F q k) q u
                    · have HCt := Lib.hid (show ∀ j, Calls Try.prog 93 #[.slice (some ⟨g, 0, none⟩) q nc, .int .i64 (T u)] (wr.drewN j) (fun e w' => e = .returned (.bool false) ∧ wr.drewN j = w') from fun j => (HC.out (wr.drewN j) HRw.out).mono fun e w' ⟨b, h1, h2, h3⟩ => ⟨by
                          rw [h1]
                          cases b
                          · rfl
                          · obtain ⟨j, j1, j2⟩ := h2.1 rfl; exact absurd j2 (hM j j1), h3⟩)
                      have HI2 := Lib.hid (show IsNx T (mvS T F q k) q u from ⟨hlt, hM, fun j hj => HN.out j hj⟩)
                      clear hM
                      go_wp2_with fail
                      go_quiet ((go_at_call 93; exact quiet_left (HCt.out _)))
                      go_wp2_with fail
                      go_roundw
                      case rel => exact ⟨u + 1, by omega, by go_num, Lib.hid (HM5.out.b (below_drewN (Below.refl _ _) _)), .inr ⟨u, rfl, HI2⟩⟩
                      case measure => simp [intOf]; omega
                    · have HCt := Lib.hid (show ∀ j, Calls Try.prog 93 #[.slice (some ⟨g, 0, none⟩) q nc, .int .i64 (T u)] (wr.drewN j) (fun e w' => e = .returned (.bool true) ∧ wr.drewN j = w') from fun j => (HC.out (wr.drewN j) HRw.out).mono fun e w' ⟨b, h1, h2, h3⟩ => ⟨by
                          rw [h1]
                          cases b
                          · exact absurd (fun j j1 j2 => absurd (h2.2 ⟨j, j1, j2⟩) (by simp)) hM
                          · rfl, h3⟩)
                      have HN2 := Lib.hid (show ∀ j, j < u + 1 → ¬ MvOk T (mvS T F q k) q j from fun j hj => by
                        by_cases e : j = u
                        · subst e; exact hM
                        · exact HN.out j (by omega))
                      clear hM
                      go_wp2_with fail
                      go_quiet ((go_at_call 93; exact quiet_left (HCt.out _)))
                      go_wp2_with fail
                      go_roundw
                      case rel => exact ⟨u + 1, by omega, by go_num, Lib.hid (HM5.out.b (below_drewN (Below.refl _ _) _)), .inl ⟨rfl, HN2⟩⟩
                      case measure => simp [intOf]; omega
                · have d0 : decide ((x : Int) < 0) = false := by simp
                  go_wp2_with fail
                  go_quiet (fail)
                  go_wp2_with fail
                  go_roundw
                  case rel => exact ⟨u + 1, by omega, by go_num, Lib.hid (HM5.out.b (below_drewN (Below.refl _ _) _)), .inr ⟨x, rfl, HI⟩⟩
                  case measure => simp [intOf]; omega
              · obtain rfl : u = q := by omega
                rcases hor with ⟨rfl, HN⟩ | ⟨x, rfl, HI⟩
                · go_wp2_with fail
                  go_ret2
                  exact .inl ⟨HG.out, HM5.out.stuck HSm.out HN.out⟩
                · have hxq := HI.out.1
                  have d0 : decide ((x : Int) < 0) = false := by simp
                  obtain ⟨b, off, hEA, _, hce⟩ := HE5.out (by omega)
                  obtain ⟨g, hNA, _, _, hO⟩ := HM5.out.now (by omega)
                  have hy := hce x hxq
                  have hx := hO.cell hxq
                  have hf := hO.frozen x
                  obtain ⟨hg1, hg2, ho6, hn6, hb6⟩ := HM5.out.move HI.out hNA
                  have HO6 := Lib.hid ho6
                  have HN6 := Lib.hid hn6
                  have HB6 := Lib.hid hb6
                  have HV := Lib.hid (show intV (mvL T F u) k = .int .i64 (x : Int) by unfold intV; rw [(mv_next HM5.out.all HI.out HM5.out.df).2.1])
                  have hlo := HM5.out.lo
                  have hkl := (mv_next HM5.out.all HI.out HM5.out.df).2.2.2
                  clear hce hO ho6 hn6 hb6
                  subst hEA hNA
                  have HS6 := Lib.hid (show (wr.setCell ⟨g, x, none⟩ (.int .i64 (T x))).heap.size = wr.heap.size by simp [World.setCell])
                  have h36 : w3.heap.size ≤ (wr.setCell ⟨g, x, none⟩ (.int .i64 (T x))).heap.size := by rw [HS6.out]; omega
                  go_upto_region 19 with fail
                  generalize wr.setCell ⟨g, x, none⟩ (.int .i64 (T x)) = w6 at *
                  go_wp2_with (at_builtin; refine wpList_pushQ rfl _ _ 26 rfl w3.heap.size 3 (.int .i64 0) 8 Try.underlying26 infoI rfl A k c (intV (mvL T F u)) (.int .i64 (x : Int)) w6 rfl HO6.out rfl HV.out rfl (by omega) (by omega) (by omega) ?_)
                  intro A' c' w7 hown' hg7
                  have HM7 := Lib.hid (HM5.out.push HI.out HO6.out HN6.out HB6.out HS6.out hown' hg7)
                  clear hown' hg7
                  go_wp2_with fail
                  go_roundw
                  case rel => exact ⟨k + 1, A', c', rfl, by omega, HM7⟩
                  case measure => simp [lenQ]; omega
end Go.Proofs.Ytfjimjbndkhkcaa
