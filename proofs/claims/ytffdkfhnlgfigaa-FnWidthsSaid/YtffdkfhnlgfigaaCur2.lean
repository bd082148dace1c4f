/- What is drawn for keys: parts, places, keys and texts. -/
import Derived.Test.YtffdkfhnlgfigaaCur
import Derived.Test.YtffdkfhnlgfigaaKeyRow
namespace Go.Proofs.Ytffdkfhnlgfigaa
open Go.RowKit

theorem grown_of_only {b : Nat} {w w' : World} (h : Only b (b + 1) w w') : w.grownBy w' (some b) :=
  ⟨h.os, h.tape, h.output, h.size, fun k hk hne => h.block k hk (by
    by_cases c : k < b
    · exact .inl c
    · by_cases e : k = b
      · exact absurd (congrArg some e) hne
      · exact .inr (by omega))⟩
theorem owned_only {b B n : Nat} {e : TypeId} {v : Value} {xs : List Value} {w w' : World} (h : w.ownsRow B e 1 v n xs) (ho : Only b (b + 1) w w') (hb : b < B) : w'.ownsRow B e 1 v n xs :=
  h.kept (grown_of_only ho) (by
    cases hv : v.ownBlock with
    | none => exact .inl rfl
    | some g => exact .inr fun hc => by injection hc with hc; have := (h.lt g hv).1; omega)
theorem Drawn.lowB {b n c k : Nat} {A : Option Addr} {D : Nat → Int} {w w1 w2 : World} (h : Drawn b A n c k D w w1) (hlt : b < w.heap.size) (hb : Below w.heap.size w1 w2) : Drawn b A n c k D w w2 :=
  ⟨h.1.same fun j hj => hb.block j (by omega), ⟨hb.os.trans h.2.os, hb.tape.trans h.2.tape, hb.output.trans h.2.output, Nat.le_trans h.2.size hb.size, fun j hj hne => (hb.block j hj).trans (h.2.block j hj hne)⟩⟩

theorem infoU : (Try.prog.info? 5).map (fun i => (i.zero, i.size, i.bytes)) = some (some (.int .u8 0), 1, 1) := by kernel_rfl
def bytesT (F : Nat → Int) (n : Nat) : ByteArray := strOfNums ((List.range n).map F)
theorem bytesT_size (F : Nat → Int) (n : Nat) : (bytesT F n).size = n := by simp [bytesT, strOfNums_size]
theorem conv_bytes {w : World} {A : Option Addr} {n c : Nat} {F : Nat → Int} (h : GRow w A n (u8V F)) (h0 : 0 < n) :
    (convert 22 9 (.slice A n c)).run Try.prog w = .ok (.string (bytesT F n)) w := by
  obtain ⟨b, off, rfl, _, hc⟩ := h h0
  refine run_convert_bytes_arg w 22 5 Try.underlying22 Try.underlying5 b off n c _ (by simp) (fun i hi => ?_) 9 Try.underlying9
  rw [hc i hi]
  simp [u8V, List.getD_eq_getElem?_getD, hi]
def putV (F : Nat → Int) (k : Nat) (x : Int) (i : Nat) : Int := if i = k then x else F i
theorem owned_put {B k c : Nat} {A : Option Addr} {F : Nat → Int} {w : World} (x : Int) (h : w.ownsRow B 5 1 (.slice A k c) k (vals (u8V F) k)) : w.ownsRow B 5 1 (.slice A k c) k (vals (u8V (putV F k x)) k) := by
  have e : vals (u8V (putV F k x)) k = vals (u8V F) k := by
    unfold vals
    apply List.map_congr_left
    intro i hi
    have := List.mem_range.1 hi
    simp [u8V, putV, show i ≠ k by omega]
  rw [e]; exact h

theorem putV_at (F : Nat → Int) (k : Nat) (x : Int) : u8V (putV F k x) k = .int .u8 x := by simp [u8V, putV]
def keyA : ByteArray := ⟨#[97, 97, 98, 98, 99, 120, 121, 122, 33, 125, 48]⟩
theorem CurS.start {A : Option Addr} {n : Nat} (c : Nat) {D : Nat → Int} {w : World} (hr : GRow w A n (u8V D)) (hD : ∀ i, i < n → 0 ≤ D i ∧ D i < 256) :
    CurS w.heap.size A n c 0 D (w.alloc (.cells #[.slice A n c, .int .i64 0, .int .u64 0] 76)) :=
  ⟨⟨0, 0, Nat.le_refl _, by omega, by omega, Go.Deep.blk_alloc_new _ _⟩, fun hn => by
    obtain ⟨q, off, hA, hq, hc⟩ := hr hn
    exact ⟨q, off, hA, hq, fun i hi => (World.cell?_of_block (a := ⟨q, off + i, none⟩) (Go.Deep.blk_alloc_lt _ _ _ hq)).trans (hc i hi)⟩, hD⟩
theorem Drawn.end {A : Option Addr} {n c k : Nat} {D : Nat → Int} {w w1 : World} {o : Obj} (h : Drawn w.heap.size A n c k D (w.alloc o) w1) : Below w.heap.size w w1 :=
  ((Below.refl _ w).alloc (Nat.le_refl _) o).trans (h.2.below (by simp) (Nat.le_refl _))

end Go.Proofs.Ytffdkfhnlgfigaa
