/- Directories that a law draws. -/
import Derived.Test.YtpmedeefoaoabaaGenR
import Derived.Test.YtpmedeefoaoabaaRaOwn
import Derived.Test.YtpmedeefoaoabaaLists
namespace Go.Proofs.Ytpmedeefoaoabaa
open Go.RowKit

/-- Three rows of the call's own, in blocks lo .. hi - 1, each in its own: or none of them has any cell. -/
def RW (lo hi m s : Nat) (A1 : Option Addr) (X : Nat → Int) (A2 : Option Addr) (Y : Nat → Int) (A3 : Option Addr) (Z : Nat → Int) (w : World) : Prop :=
  (m = 0 ∧ s = 0) ∨ ∃ g1 g2 g3, A1 = some ⟨g1, 0, none⟩ ∧ A2 = some ⟨g2, 0, none⟩ ∧ A3 = some ⟨g3, 0, none⟩ ∧ lo ≤ g1 ∧ g1 < hi ∧ lo ≤ g2 ∧ g2 < hi ∧ lo ≤ g3 ∧ g3 < hi ∧ g1 ≠ g2 ∧ g1 ≠ g3 ∧ g2 ≠ g3 ∧ ORow w g1 m X ∧ ORow w g2 s Y ∧ ORow w g3 m Z
section
variable {lo hi m s q bb : Nat} {A1 A2 A3 : Option Addr} {X Y Z : Nat → Int} {w w' : World}
theorem RW.same (h : RW lo hi m s A1 X A2 Y A3 Z w) (e : ∀ g, lo ≤ g → g < hi → w'.heap[g]? = w.heap[g]?) : RW lo hi m s A1 X A2 Y A3 Z w' := by
  rcases h with h | ⟨g1, g2, g3, a1, a2, a3, l1, u1, l2, u2, l3, u3, n1, n2, n3, o1, o2, o3⟩
  · exact .inl h
  · exact .inr ⟨g1, g2, g3, a1, a2, a3, l1, u1, l2, u2, l3, u3, n1, n2, n3, o1.of_block (e g1 l1 u1), o2.of_block (e g2 l2 u2), o3.of_block (e g3 l3 u3)⟩
theorem RW.only (h : RW lo hi m s A1 X A2 Y A3 Z w) (ho : Only bb (bb + 1) w w') (hb : bb < lo) (hh : hi ≤ w.heap.size) : RW lo hi m s A1 X A2 Y A3 Z w' := h.same fun g h1 h2 => ho.block g (by omega) (by omega)
theorem RW.b (h : RW lo hi m s A1 X A2 Y A3 Z w) (hb : Below w.heap.size w w') (hh : hi ≤ w.heap.size) : RW lo hi m s A1 X A2 Y A3 Z w' := h.same fun g _ h2 => hb.block g (by omega)
theorem RW.setO (h : RW lo hi m s A1 X A2 Y A3 Z w) (hq : q < lo ∨ hi ≤ q) (i : Nat) (v : Value) : RW lo hi m s A1 X A2 Y A3 Z (w.setCell ⟨q, i, none⟩ v) := h.same fun g h1 h2 => Go.Deep.blk_setCell_other _ _ _ _ (show g ≠ q by omega)
theorem RW.ow1 (h : RW lo hi m s A1 X A2 Y A3 Z w) : Ow lo w.heap.size 3 A1 m (intV X) w := by
  rcases h with ⟨rfl, _⟩ | ⟨g1, g2, g3, rfl, a2, a3, l1, u1, l2, u2, l3, u3, n1, n2, n3, o1, o2, o3⟩
  · exact ow_zero _ _ _ _ _ _
  · exact ow_of_own (F := intV X) o1 l1 (Nat.le_refl _)
theorem RW.ow2 (h : RW lo hi m s A1 X A2 Y A3 Z w) : Ow lo w.heap.size 3 A2 s (intV Y) w := by
  rcases h with ⟨_, rfl⟩ | ⟨g1, g2, g3, a1, rfl, a3, l1, u1, l2, u2, l3, u3, n1, n2, n3, o1, o2, o3⟩
  · exact ow_zero _ _ _ _ _ _
  · exact ow_of_own (F := intV Y) o2 l2 (Nat.le_refl _)
theorem RW.ow3 (h : RW lo hi m s A1 X A2 Y A3 Z w) : Ow lo w.heap.size 3 A3 m (intV Z) w := by
  rcases h with ⟨rfl, _⟩ | ⟨g1, g2, g3, a1, a2, rfl, l1, u1, l2, u2, l3, u3, n1, n2, n3, o1, o2, o3⟩
  · exact ow_zero _ _ _ _ _ _
  · exact ow_of_own (F := intV Z) o3 l3 (Nat.le_refl _)
end
section
variable {lo hi m s : Nat} {A1 A2 A3 : Option Addr} {X Y Z : Nat → Int} {w w' : World}
theorem RW.at1 (h : RW lo hi m s A1 X A2 Y A3 Z w) (hh : hi ≤ w.heap.size) : At lo hi (Ow lo hi 3 A1 m (intV X)) w := by
  refine ⟨?_, hh, Ow.lives _ _ _ _ _ _⟩
  rcases h with ⟨rfl, _⟩ | ⟨g1, g2, g3, rfl, a2, a3, l1, u1, l2, u2, l3, u3, n1, n2, n3, o1, o2, o3⟩
  · exact ow_zero _ _ _ _ _ _
  · obtain ⟨c, c1, c2, c3⟩ := o1
    exact fun _ => ⟨g1, 0, c, rfl, l1, u1, c1, by omega, fun k hk => by rw [Nat.zero_add]; exact c3 k hk⟩
theorem RW.at2 (h : RW lo hi m s A1 X A2 Y A3 Z w) (hh : hi ≤ w.heap.size) : At lo hi (Ow lo hi 3 A2 s (intV Y)) w := by
  refine ⟨?_, hh, Ow.lives _ _ _ _ _ _⟩
  rcases h with ⟨_, rfl⟩ | ⟨g1, g2, g3, a1, rfl, a3, l1, u1, l2, u2, l3, u3, n1, n2, n3, o1, o2, o3⟩
  · exact ow_zero _ _ _ _ _ _
  · obtain ⟨c, c1, c2, c3⟩ := o2
    exact fun _ => ⟨g2, 0, c, rfl, l2, u2, c1, by omega, fun k hk => by rw [Nat.zero_add]; exact c3 k hk⟩
theorem RW.at3 (h : RW lo hi m s A1 X A2 Y A3 Z w) (hh : hi ≤ w.heap.size) : At lo hi (Ow lo hi 3 A3 m (intV Z)) w := by
  refine ⟨?_, hh, Ow.lives _ _ _ _ _ _⟩
  rcases h with ⟨rfl, _⟩ | ⟨g1, g2, g3, a1, a2, rfl, l1, u1, l2, u2, l3, u3, n1, n2, n3, o1, o2, o3⟩
  · exact ow_zero _ _ _ _ _ _
  · obtain ⟨c, c1, c2, c3⟩ := o3
    exact fun _ => ⟨g3, 0, c, rfl, l3, u3, c1, by omega, fun k hk => by rw [Nat.zero_add]; exact c3 k hk⟩
theorem at_point {g n : Nat} (h : ORow w g n X) : At g (g + 1) (Ow g (g + 1) 3 (some ⟨g, 0, none⟩) n (intV X)) w := by
  have hl := h.lt
  obtain ⟨c, c1, c2, c3⟩ := h
  exact ⟨fun _ => ⟨g, 0, c, rfl, Nat.le_refl _, by omega, c1, by omega, fun k hk => by rw [Nat.zero_add]; exact c3 k hk⟩, hl, Ow.lives _ _ _ _ _ _⟩
theorem orow_ne {g n b q : Nat} {cs : Array Value} (h : ORow w g n X) (k : NBX b q cs 28 w) : g ≠ q := fun e => by
  subst e
  obtain ⟨c, c1, _⟩ := h
  have := k.blk
  rw [c1] at this
  injection this with this
  injection this with _ h2
  exact absurd h2 (by decide)
/-- The third row grows: the other two stay. -/
theorem RW.grow3 {c3 : Nat} (h : RW lo hi m s A1 X A2 Y A3 Z w) (hg : w.grownBy w' (ob A3 m c3)) : At lo hi (Ow lo hi 3 A1 m (intV X)) w → At lo hi (Ow lo hi 3 A2 s (intV Y)) w → At lo hi (Ow lo hi 3 A1 m (intV X)) w' ∧ At lo hi (Ow lo hi 3 A2 s (intV Y)) w' := by
  intro k1 k2
  have hs : w.heap.size ≤ w'.heap.size := hg.size
  rcases h with ⟨rfl, rfl⟩ | ⟨g1, g2, g3, rfl, rfl, rfl, l1, u1, l2, u2, l3, u3, n1, n2, n3, o1, o2, o3⟩
  · exact ⟨⟨ow_zero _ _ _ _ _ _, Nat.le_trans k1.top hs, Ow.lives _ _ _ _ _ _⟩, ⟨ow_zero _ _ _ _ _ _, Nat.le_trans k2.top hs, Ow.lives _ _ _ _ _ _⟩⟩
  · have e : ob (some ⟨g3, 0, none⟩) m c3 = some g3 := by simp [ob, Value.ownBlock]
    rw [e] at hg
    obtain ⟨c, c1, c2, c3⟩ := o1.grown hg (fun e => n2 (by injection e))
    obtain ⟨d, d1, d2, d3⟩ := o2.grown hg (fun e => n3 (by injection e))
    exact ⟨⟨fun _ => ⟨g1, 0, c, rfl, l1, u1, c1, by omega, fun k hk => by rw [Nat.zero_add]; exact c3 k hk⟩, Nat.le_trans k1.top hs, Ow.lives _ _ _ _ _ _⟩, ⟨fun _ => ⟨g2, 0, d, rfl, l2, u2, d1, by omega, fun k hk => by rw [Nat.zero_add]; exact d3 k hk⟩, Nat.le_trans k2.top hs, Ow.lives _ _ _ _ _ _⟩⟩
theorem own_same {L n c : Nat} {A : Option Addr} {F G : Nat → Value} (h : w.ownsRow L 3 1 (.slice A n c) n (vals F n)) (e : ∀ i, i < n → F i = G i) : w.ownsRow L 3 1 (.slice A n c) n (vals G n) := by
  have : vals F n = vals G n := by unfold vals; exact List.map_congr_left (fun i hi => e i (by simpa using hi))
  rwa [← this]
end
theorem own_head {w : World} {L n c : Nat} {A : Option Addr} {X : Nat → Int} (h : w.ownsRow L 3 1 (.slice A n c) n (vals (intV X) n)) (h0 : 0 < n) : ∃ g, A = some ⟨g, 0, none⟩ ∧ L ≤ g ∧ ORow w g n X := by
  rcases owned_vec h with h | ⟨g, hA, hg, ho⟩
  · omega
  · exact ⟨g, hA, hg, ho⟩
/-- The rows of a fresh directory. -/
theorem rw_new {w : World} {lo L m s c2 c3 : Nat} {A1 A2 A3 : Option Addr} {X Y Z : Nat → Int} (hms : 0 < m ↔ 0 < s) (_hlo : lo ≤ L) (o1 : GVec w lo 3 A1 m (intV X)) (hlt : ∀ g o, A1 = some ⟨g, o, none⟩ → 0 < m → g < L)
    (o2 : w.ownsRow L 3 1 (.slice A2 s c2) s (vals (intV Y) s)) (o3 : w.ownsRow L 3 1 (.slice A3 m c3) m (vals (intV Z) m)) (hap : ∀ g, ob A2 s c2 = some g → ob A3 m c3 ≠ some g) : RW lo w.heap.size m s A1 X A2 Y A3 Z w := by
  by_cases h0 : 0 < m
  · obtain ⟨g2, rfl, l2, r2⟩ := own_head o2 (hms.1 h0)
    obtain ⟨g3, rfl, l3, r3⟩ := own_head o3 h0
    rcases o1 with h | ⟨g1, rfl, l1, r1⟩
    · omega
    · have h1 := hlt g1 0 rfl h0
      have hne : g2 ≠ g3 := fun e => by
        subst e
        have k2 : ob (some ⟨g2, 0, none⟩) s c2 = some g2 ∨ c2 = 0 := by exact .inl (by simp [ob, Value.ownBlock])
        have k3 : ob (some ⟨g2, 0, none⟩) m c3 = some g2 ∨ c3 = 0 := by exact .inl (by simp [ob, Value.ownBlock])
        obtain ⟨_, _, e2, hc2, _⟩ := owned_slice o2
        obtain ⟨_, _, e3, hc3, _⟩ := owned_slice o3
        injection e2 with _ _ e2
        injection e3 with _ _ e3
        have := hms.1 h0
        rcases k2 with k2 | k2
        · rcases k3 with k3 | k3
          · exact hap g2 k2 k3
          · omega
        · omega
      exact .inr ⟨g1, g2, g3, rfl, rfl, rfl, l1, (Array.getElem?_eq_some_iff.1 r1.choose_spec.1).1, by omega, r2.lt, by omega, r3.lt, by omega, by omega, hne, r1, r2, r3⟩
  · exact .inl ⟨by omega, by have := fun h => h0 (hms.2 h); omega⟩
/-- What is drawn: three rows of the call's own. -/
def RkDrawn (b : Nat) (A : Option Addr) (n c k : Nat) (D : Nat → Int) (w : World) (e : Ending) (w' : World) : Prop :=
  ∃ (z : Int) (A1 : Option Addr) (m d1 : Nat) (X : Nat → Int) (A2 : Option Addr) (s d2 : Nat) (Y : Nat → Int) (A3 : Option Addr) (p d3 : Nat) (Z : Nat → Int), -1 ≤ z ∧ z ≤ 4096 ∧ m ≤ 257 ∧ s ≤ 257 ∧ p ≤ 258 ∧ e = .returned (.agg #[.int .i64 z, .slice A1 m d1, .slice A2 s d2, .slice A3 p d3]) ∧
    Ow w.heap.size w'.heap.size 3 A1 m (intV X) w' ∧ Ow w.heap.size w'.heap.size 3 A2 s (intV Y) w' ∧ Ow w.heap.size w'.heap.size 3 A3 p (intV Z) w' ∧ Drawn b A n c k D w w'
theorem wpList_push_grown {ops : Array Oper} {rest : List Oper} {o : Oper} {a : Act} {Q : Exit → Act → World → Prop} (hgd : o.guard = none) (s x : Operand) (t : TypeId)
    (ho : o.op = .call { callee := .builtin .append, args := #[s, x], argTypes := #[t, t] }) (B : Nat) (e : TypeId) (z : Value) (bytes : Nat)
    (ht : Try.prog.underlying t = some (.slice e)) (hinfo : (Try.prog.info? e).map (fun i => (i.zero, i.size, i.bytes)) = some (some z, 1, bytes)) (hz1 : z.cells.size = 1)
    (A : Option Addr) (k c : Nat) (F : Nat → Value) (u : Value) (wr : World) (hs : a.eval s = .slice A k c) (hown : wr.ownsRow B e 1 (.slice A k c) k (vals F k))
    (hx : a.eval x = .slice (some ⟨wr.heap.size, 0, none⟩) 1 1) (hF : F k = u) (hu : u.oneCell' = true) (hk : (k + 1) * bytes ≤ 140737488355328) (hk2 : k < 16777216) (hB : B ≤ wr.heap.size)
    (h : ∀ A' c' w3, w3.ownsRow B e 1 (.slice A' (k + 1) c') (k + 1) (vals F (k + 1)) → (wr.alloc (.cells #[u] e)).grownBy w3 (ob A k c) → wpList Try.prog ops Q rest (a.put o.dst (.slice A' (k + 1) c')) w3) :
    wpList Try.prog ops Q (o :: rest) a (wr.alloc (.cells #[u] e)) := by
  obtain ⟨i0, hi, hz0, hz1', hz2⟩ := info_parts hinfo
  refine wpList_append_own _ hgd s x t ho B e i0 z 1 bytes ht hi hz0 hz1' hz2 hz1 (by decide) _ _ _ hs (hown.alloc _) ⟨wr.heap.size, 0, none⟩ 1 1 [u] hx rfl ?_ ?_ ?_ hk ?_ ?_
  · intro j v hj
    match j, hj with
    | 0, hj => simp at hj; subst hj; simp [Addr.add]
  · intro v hv; simp at hv; subst hv; exact hu
  · unfold maxLen; omega
  · simp; omega
  · intro v' w3 hown' hgrow _
    obtain ⟨A', c', rfl, _, _⟩ := owned_slice hown'
    exact h A' c' w3 (by rw [vals_snoc, hF]; exact hown') hgrow
end Go.Proofs.Ytpmedeefoaoabaa
