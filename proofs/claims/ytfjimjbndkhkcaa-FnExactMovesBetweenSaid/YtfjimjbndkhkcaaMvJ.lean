/- MovesBetween: the program's answer. -/
import Derived.Test.YtfjimjbndkhkcaaMvI
namespace Go.Proofs.Ytfjimjbndkhkcaa
open Go.RowKit

theorem IQ.move {w wr : World} {B1 gb n nc k c g i : Nat} {NA A : Option Addr} {T F : Nat → Int} (h : IQ w B1 gb NA nc n T F k A c wr) (hi : IsNx T (mvS T F n k) n i) (hg : NA = some ⟨g, 0, none⟩) (ho : ORow wr g n (mvS T F n k)) :
    (wr.setCell ⟨g, i, none⟩ (.int .i64 (T i))).drew.ownsRow (gb + 1) 3 1 (.slice A k c) k (vals (intV (mvL T F n)) k) ∧ NowQ B1 (gb + 1) NA n (mvS T F n (k + 1)) (wr.setCell ⟨g, i, none⟩ (.int .i64 (T i))).drew ∧ Below w.heap.size w (wr.setCell ⟨g, i, none⟩ (.int .i64 (T i))).drew ∧ NBX gb gb #[.slice NA n nc] 26 (wr.setCell ⟨g, i, none⟩ (.int .i64 (T i))).drew := by
  obtain ⟨h1, h2, h3, h4, h5⟩ := h.m.move hi hg
  have hne := nbx_ne_orow h.box ho (by decide)
  exact ⟨h3, h4, ⟨h5.os, h5.tape, h5.output, h5.size, h5.block⟩, (Go.Deep.blk_setCell_other _ _ _ _ hne).trans h.box.blk, h.box.ge⟩
theorem IQ.push {w wr w6 w7 : World} {B1 gb n nc k c c' i : Nat} {NA A A' : Option Addr} {T F : Nat → Int} (h : IQ w B1 gb NA nc n T F k A c wr) (hi : IsNx T (mvS T F n k) n i)
    (h1 : w6.ownsRow (gb + 1) 3 1 (.slice A k c) k (vals (intV (mvL T F n)) k)) (h2 : NowQ B1 (gb + 1) NA n (mvS T F n (k + 1)) w6) (h3 : Below w.heap.size w w6) (hx : NBX gb gb #[.slice NA n nc] 26 w6) (h4 : w6.heap.size = wr.heap.size)
    (ho : w7.ownsRow (gb + 1) 3 1 (.slice A' (k + 1) c') (k + 1) (vals (intV (mvL T F n)) (k + 1))) (hg : (w6.alloc (.cells #[.int .i64 (i : Int)] 3)).grownBy w7 (Value.slice A k c).ownBlock) : IQ w B1 gb NA nc n T F (k + 1) A' c' w7 := by
  refine ⟨h.m.push hi h1 h2 h3 h4 ho hg, ?_⟩
  have hB := (Below.refl w6.heap.size w6).alloc (Nat.le_refl _) (.cells #[.int .i64 (i : Int)] 3)
  have hx2 := hx.b hB
  exact ⟨(hg.block gb hx2.lt (fun e => by have := ((owned_b h1 hB).lt gb e.symm).1; omega)).trans hx2.blk, hx.ge⟩
set_option maxRecDepth 100000 in
set_option maxHeartbeats 4000000 in
theorem impl_moves (z P : Int) (KA : Option Addr) (n kc : Nat) (S : Nat → ByteArray) (FA : Option Addr) (m : Nat) (F : Nat → Int) (EA : Option Addr) (q : Nat) (T : Nat → Int) (w : World) (hn : n ≤ 1048576) (hs : ∀ i, i < n → (S i).size ≤ maxLen) (hr : GRow w KA n (strV S)) (hm : m ≤ 1048576) (hf : IRow w FA m F) (hq : q ≤ 1048576) (he : IRow w EA q T) :
    Calls Try.prog 50 #[.int .i64 z, .slice KA n kc, .int .i64 P, .slice FA m m, .slice EA q q] w (MvRes (MvGood z P n S m F q T) T F n w) := by
  have HR := Lib.hid hr
  have HS := Lib.hid hs
  have HF := Lib.hid hf
  have HE := Lib.hid he
  clear hr hs hf he
  go_enter Try.func50, Try.ntmps50
  go_wp2_with fail
  refine (impl_cellSetsOf z P KA n kc S _ hn HS.out HR.out).mono ?_; rintro e w2 ⟨hb, hor⟩
  have HB := Lib.hid hb
  have HF2 := Lib.hid (HF.out.b hb)
  have HE2 := Lib.hid (HE.out.b hb)
  clear hb
  rcases hor with ⟨hk, rfl⟩ | ⟨hk, A, c, rfl, ha⟩
  · have HX := Lib.hid (show ¬ MvGood z P n S m F q T from fun h => absurd (hk.symm.trans h.1) (by simp))
    go_wp2_with fail
    go_ret2
    exact .inr ⟨HX.out, rfl, HB.out⟩
  · have HA := Lib.hid ha
    have hz : sizeB z P = true := by simp only [Bool.and_eq_true] at hk; exact hk.1
    have hn40 : n ≤ 40 := by simp only [Bool.and_eq_true] at hk; exact keysB_size hk.2
    have hV := Lib.hid (fun i k => celV2_bd (S := S) hz i k)
    clear ha
    go_wp2_with fail
    refine (impl_isPlaced A n c _ FA m m F _ hn hm (Nat.le_refl _) hV.out HA.out HF2.out).mono ?_; rintro e w3 ⟨b, rfl, hb, rfl⟩
    cases b with
    | false =>
      have HX := Lib.hid (show ¬ MvGood z P n S m F q T from fun h => absurd (hb.2 h.2.1) (by simp))
      clear hb
      go_wp2_with fail
      go_ret2
      exact .inr ⟨HX.out, rfl, HB.out⟩
    | true =>
      have H1 := Lib.hid (hb.1 rfl)
      clear hb
      go_wp2_with fail
      refine (impl_isPlaced A n c _ EA q q T _ hn hq (Nat.le_refl _) hV.out HA.out HE2.out).mono ?_; rintro e w3 ⟨b, rfl, hb, rfl⟩
      cases b with
      | false =>
        have HX := Lib.hid (show ¬ MvGood z P n S m F q T from fun h => absurd (hb.2 h.2.2) (by simp))
        clear hb
        go_wp2_with fail
        go_ret2
        exact .inr ⟨HX.out, rfl, HB.out⟩
      | true =>
        have H2 := Lib.hid (hb.1 rfl)
        have HG := Lib.hid (show MvGood z P n S m F q T from ⟨hk, H1.out, H2.out⟩)
        clear hb
        obtain rfl : m = n := H1.out.1
        obtain rfl : q = m := H2.out.1
        have hs1 := HB.out.size
        go_wp2_with fail
        refine (clone_intsQ FA q q F _ (by omega) HF2.out).mono ?_; rintro e w3 ⟨NA, nc, rfl, ho, hb⟩
        have hs2 := hb.size
        have hal := (Below.refl w3.heap.size w3).alloc (Nat.le_refl _) (.cells #[.slice NA q nc] 26)
        have HB4 := Lib.hid ((HB.out.trans (hb.mono hs1)).trans (hal.mono (by omega)))
        have N0 := (nowQ_of ho).b hal
        have M0 := Lib.hid (show IQ w w2.heap.size w3.heap.size NA nc q T F 0 none 0 (w3.alloc (.cells #[.slice NA q nc] 26)) from
          ⟨⟨fun j hj => absurd hj (by omega), by have := dfN_le T F q; show 0 + dfN T F q ≤ q; omega, World.ownsRow_nil _ _ _ _, fun h => by obtain ⟨g, e, a, b, o⟩ := N0 h; exact ⟨g, e, a, by omega, o⟩, HB4.out, hs1, by omega, by simp⟩, Go.Deep.blk_alloc_new _ _, Nat.le_refl _⟩)
        have HIX := Lib.hid (fun (k : Nat) (A : Option Addr) (c : Nat) (wr : World) (h : IQ w w2.heap.size w3.heap.size NA nc q T F k A c wr) => find_moved w wr w2.heap.size w3.heap.size NA nc q T F k A c EA (by omega) h (HE.out.b h.m.below))
        clear ho hb hal N0
        go_wp2_with fail
        refine (HIX.out 0 none 0 _ M0.out).mono ?_; rintro e w5 ⟨rfl, v, rfl, hv⟩
        have HV0 := Lib.hid hv
        clear hv
        go_wp2_with fail
        go_loopw [16, 17] (fun v x wr => ∃ (k : Nat) (A : Option Addr) (c : Nat) (y : Int), v = .slice A k c ∧ x = .int .i64 y ∧ k ≤ q ∧ Hid (FoundQ T (mvS T F q k) q (.int .i64 y)) ∧ Hid (IQ w w2.heap.size w3.heap.size NA nc q T F k A c wr)) (fun v _ _ => q - lenQ v)
        case atStart => exact ⟨0, none, 0, v, rfl, rfl, by omega, HV0, M0⟩
        case round =>
          obtain ⟨k, A, c, y, rfl, rfl, hkq, HV, HM⟩ := hrel
          have HEr := Lib.hid (HE.out.b HM.out.m.below)
          have y0 := HM.out.box.cell 0 _ rfl
          rcases HV.out with ⟨i, hi, hnx⟩ | ⟨hi, hno⟩
          · injection hi with _ hi
            subst hi
            have HI := Lib.hid hnx
            have hiq := hnx.1
            obtain ⟨b, off, hEA, _, hce⟩ := HEr.out (by omega)
            obtain ⟨g, hNA, _, _, hO⟩ := HM.out.m.now (by omega)
            have hy := hce i hiq
            have hx := hO.cell hiq
            have hf := hO.frozen i
            obtain ⟨ho6, hn6, hb6, hx6⟩ := HM.out.move hnx hNA hO
            have HO6 := Lib.hid ho6
            have HN6 := Lib.hid hn6
            have HB6 := Lib.hid hb6
            have HX6 := Lib.hid hx6
            have hmv := mv_next HM.out.m.all hnx HM.out.m.df
            have HVl := Lib.hid (show intV (mvL T F q) k = .int .i64 (i : Int) by unfold intV; rw [hmv.2.1])
            have hkl := hmv.2.2.2
            have hlo := HM.out.m.lo
            have HS6 := Lib.hid (show (wr.setCell ⟨g, i, none⟩ (.int .i64 (T i))).drew.heap.size = wr.heap.size by simp [World.setCell, World.drew])
            have h36 : w3.heap.size + 1 ≤ (wr.setCell ⟨g, i, none⟩ (.int .i64 (T i))).drew.heap.size := by rw [HS6.out]; omega
            clear hce hO ho6 hn6 hb6 hx6 hmv hnx
            subst hNA hEA
            go_wp2_with fail
            go_region
            generalize (wr.setCell ⟨g, i, none⟩ (.int .i64 (T i))).drew = w6 at *
            go_wp2_with (at_builtin; refine wpList_pushQ rfl _ _ 26 rfl (w3.heap.size + 1) 3 (.int .i64 0) 8 Try.underlying26 infoI rfl A k c (intV (mvL T F q)) (.int .i64 (i : Int)) w6 rfl HO6.out rfl HVl.out rfl (by omega) (by omega) (by omega) ?_)
            intro A' c' w7 hown' hg7
            have HM7 := Lib.hid (HM.out.push HI.out HO6.out HN6.out HB6.out HX6.out HS6.out hown' hg7)
            clear hown' hg7
            go_wp2_with fail
            refine (HIX.out _ _ _ _ HM7.out).mono ?_; rintro e w5 ⟨rfl, v2, rfl, hv2⟩
            have HV2 := Lib.hid hv2
            clear hv2
            go_wp2_with fail
            go_roundw
            case rel => exact ⟨k + 1, A', c', v2, rfl, rfl, by omega, HV2, HM7⟩
            case measure => simp [lenQ]; omega
          · injection hi with _ hi
            subst hi
            have HNo := Lib.hid hno
            clear hno
            go_wp2_with fail
            refine (slices_equal NA EA q nc q q (mvS T F q k) T _ (by omega) (by omega) HM.out.m.now.row HEr.out).mono ?_; rintro e w4 ⟨b, rfl, hsm, hb⟩
            have HM4 := Lib.hid (HM.out.m.b hb)
            clear hb
            cases b with
            | true =>
              have HSm := Lib.hid (hsm.1 rfl).2
              clear hsm
              go_wp2_with fail
              go_ret2
              exact .inl ⟨HG.out, HM4.out.done HSm.out⟩
            | false =>
              have HSm := Lib.hid (show ¬ ∀ i, i < q → mvS T F q k i = T i from fun h => absurd (hsm.2 ⟨rfl, h⟩) (by simp))
              clear hsm
              go_wp2_with fail
              go_ret2
              exact .inl ⟨HG.out, HM4.out.stuck HSm.out HNo.out⟩
end Go.Proofs.Ytfjimjbndkhkcaa
