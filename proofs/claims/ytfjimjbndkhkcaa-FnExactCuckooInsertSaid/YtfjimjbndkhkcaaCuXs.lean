/- A key put into a table, the model's side. -/
import Derived.Test.YtfjimjbndkhkcaaCuX
import Derived.Test.YtfjimjbndkhkcaaCuF
namespace Go.Proofs.Ytfjimjbndkhkcaa
open Go.RowKit

/-- What a table becomes when a key is put in: slots, stash, and how many were thrown out; or there is no room. -/
inductive InsR (z : Int) (n : Nat) (S : Nat → ByteArray) (m : Nat) (H : Nat → ByteArray) (x : ByteArray) (mv : Nat) : Option ((Nat → ByteArray) × List Byt × Nat) → Prop
  | settled (i : Nat) (h : empO z x.data.toList n S = some i) : InsR z n S m H x mv (some (updC S i x, lsOf H m, 0))
  | filled (T : Nat) (h : empO z x.data.toList n S = none) (hT : KEnd z n S x mv T) (hE : kE z n S x T = true) : InsR z n S m H x mv (some (updC (kS z n S x T) (kC z n S x T) (kK z n S x T), lsOf H m, T))
  | stashed (T : Nat) (h : empO z x.data.toList n S = none) (hT : KEnd z n S x mv T) (hE : kE z n S x T = false) (h4 : m ≠ 4) : InsR z n S m H x mv (some (kS z n S x T, insS (kK z n S x T).data.toList (lsOf H m), T))
  | full (T : Nat) (h : empO z x.data.toList n S = none) (hT : KEnd z n S x mv T) (hE : kE z n S x T = false) (h4 : m = 4) : InsR z n S m H x mv none
theorem insR_ex (z : Int) (n : Nat) (S : Nat → ByteArray) (m : Nat) (H : Nat → ByteArray) (x : ByteArray) (mv : Nat) : ∃ o, InsR z n S m H x mv o := by
  cases hO : empO z x.data.toList n S with
  | some i => exact ⟨_, .settled i hO⟩
  | none =>
    obtain ⟨T, hT⟩ := kEnd_ex z n S x mv
    cases hE : kE z n S x T with
    | true => exact ⟨_, .filled T hO hT hE⟩
    | false =>
      by_cases h4 : m = 4
      · exact ⟨_, .full T hO hT hE h4⟩
      · exact ⟨_, .stashed T hO hT hE h4⟩
theorem insR_det {z : Int} {n : Nat} {S : Nat → ByteArray} {m : Nat} {H : Nat → ByteArray} {x : ByteArray} {mv : Nat} {o o' : Option ((Nat → ByteArray) × List Byt × Nat)} (h : InsR z n S m H x mv o) (h' : InsR z n S m H x mv o') : o = o' := by
  cases h with
  | settled i hi =>
    cases h' with
    | settled j hj => rw [hi] at hj; injection hj with e; rw [e]
    | filled T h2 => rw [hi] at h2; cases h2
    | stashed T h2 => rw [hi] at h2; cases h2
    | full T h2 => rw [hi] at h2; cases h2
  | filled T hO hT hE =>
    cases h' with
    | settled j hj => rw [hO] at hj; cases hj
    | filled T' _ hT' hE' => rw [kEnd_det hT hT']
    | stashed T' _ hT' hE' => rw [kEnd_det hT hT', hE'] at hE; cases hE
    | full T' _ hT' hE' => rw [kEnd_det hT hT', hE'] at hE; cases hE
  | stashed T hO hT hE h4 =>
    cases h' with
    | settled j hj => rw [hO] at hj; cases hj
    | filled T' _ hT' hE' => rw [kEnd_det hT hT', hE'] at hE; cases hE
    | stashed T' _ hT' hE' => rw [kEnd_det hT hT']
    | full T' _ hT' hE' h4' => exact absurd h4' h4
  | full T hO hT hE h4 =>
    cases h' with
    | settled j hj => rw [hO] at hj; cases hj
    | filled T' _ hT' hE' => rw [kEnd_det hT hT', hE'] at hE; cases hE
    | stashed T' _ hT' hE' h4' => exact absurd h4 h4'
    | full => rfl
theorem insS_le (x : Byt) (l : List Byt) : (insS x l).length ≤ l.length + 1 := by
  induction l with
  | nil => simp [insS]
  | cons a l ih =>
    rw [insS]
    split
    · simp; exact ih
    · split <;> simp
theorem insR_len {z : Int} {n : Nat} {S : Nat → ByteArray} {m : Nat} {H : Nat → ByteArray} {x : ByteArray} {mv : Nat} {S' : Nat → ByteArray} {L : List Byt} {T : Nat} (h : InsR z n S m H x mv (some (S', L, T))) : L.length ≤ m + 1 ∧ T ≤ mv := by
  cases h with
  | settled i hi => rw [lsOf_len]; exact ⟨by omega, by omega⟩
  | filled T hO hT hE => rw [lsOf_len]; exact ⟨by omega, hT.le⟩
  | stashed T hO hT hE h4 =>
    have := insS_le (kK z n S x T).data.toList (lsOf H m)
    rw [lsOf_len] at this
    exact ⟨this, hT.le⟩
theorem grown_hi {w wr : World} {r : Option Nat} (h : w.grownBy wr r) {b : Nat} (hb : w.heap.size ≤ b) (o : Nat) (v : Value) : w.grownBy (wr.setCell ⟨b, o, none⟩ v) r :=
  ⟨h.os, h.tape, h.output, by simpa [World.setCell] using h.size, fun k hk hne => (Below.heap_setCell wr ⟨b, o, none⟩ v k (by show k ≠ b; omega)).trans (h.block k hk hne)⟩
theorem grow_rowG {w w' : World} {A : Option Addr} {n g : Nat} {F : Nat → Value} (h : GRow w A n F) (hg : w.grownBy w' (some g)) (hne : ∀ b o, A = some ⟨b, o, none⟩ → b ≠ g) : GRow w' A n F := fun hn => by
  obtain ⟨b, off, hA, hlt, hc⟩ := h hn
  exact ⟨b, off, hA, Nat.lt_of_lt_of_le hlt hg.size, fun k hk => by rw [World.cell?_of_block (a := ⟨b, off + k, none⟩) (hg.block b hlt (fun e => hne b off hA (by injection e)))]; exact hc k hk⟩
/-- The model's insertion of a string, with where its answer lies. -/
theorem spec_l1PutS_at (A : Option Addr) (n c : Nat) (S : Nat → ByteArray) (x : ByteArray) (w : World) (hn : n ≤ 4096) (hnc : n ≤ c) (hr : GRow w A n (strV S)) :
    Calls Try.prog 112 #[.slice A n c, .string x] w fun e w' => ∃ A' c', e = .returned (.slice A' (insS x.data.toList (lsOf S n)).length c') ∧ GRow w' A' (insS x.data.toList (lsOf S n)).length (strV (rowS (insS x.data.toList (lsOf S n)))) ∧ (insS x.data.toList (lsOf S n)).length ≤ c' ∧ ((A' = A ∧ 0 < n) ∨ ∀ b o, A' = some ⟨b, o, none⟩ → w.heap.size ≤ b) ∧ Below w.heap.size w w' := by
  have hall : Calls Try.prog 112 #[.slice A n c, .string x] w fun e w' => ∃ A' c' m S', e = .returned (.slice A' m c') ∧ lsOf S' m = insS x.data.toList (lsOf S n) ∧ GRow w' A' m (strV S') ∧ m ≤ c' ∧ ((A' = A ∧ 0 < n) ∨ ∀ b o, A' = some ⟨b, o, none⟩ → w.heap.size ≤ b) ∧ Below w.heap.size w w' := by
    obtain ⟨k, hk, h1, h2⟩ := first_not (fun i => (S i).data.toList < x.data.toList) n
    have hl1 : ∀ i, i < k → ltS (S i) x = true := fun i hi => by rw [ltS_is]; simpa using h1 i hi
    have ha : ∀ y, y ∈ lsOf S k → y < x.data.toList := fun y hy => by
      obtain ⟨i, hi, rfl⟩ := lsOf_mem.1 hy
      exact h1 i hi
    have hsp : lsOf S n = lsOf S k ++ lsOf (fun i => S (k + i)) (n - k) := by rw [← lsOf_add, show k + (n - k) = n by omega]
    by_cases hx : k < n ∧ (S k).data.toList = x.data.toList
    · obtain ⟨hkn, hxe⟩ := hx
      have e1 : lsOf (fun i => S (k + i)) (n - k) = x.data.toList :: lsOf (fun i => S (k + (1 + i))) (n - k - 1) := by
        rw [show n - k = 1 + (n - k - 1) by omega, lsOf_add]
        simp [lsOf, hxe]
      refine (spec_l1PutS_has A n c S x k w hn hr hkn hl1 (ba_ext hxe)).mono ?_
      rintro e w' ⟨rfl, rfl⟩
      exact ⟨A, c, n, S, rfl, by rw [hsp, e1, insS_here ha], hr, hnc, .inl ⟨rfl, by omega⟩, Below.refl _ _⟩
    · have hlt : k < n → x.data.toList < (S k).data.toList := fun h => bs_lt (bs_le.1 (h2 h)) (fun e => hx ⟨h, e.symm⟩)
      refine (spec_l1PutS_new A n c S x k w hn hnc hr hk hl1 (fun h => by rw [ltS_is]; simpa using hlt h)).mono ?_
      rintro e w' ⟨A', c', rfl, ho, hb⟩
      obtain ⟨_, _, hv, hle, _⟩ := owned_slice ho
      injection hv with e1 e2 e3
      subst e3
      refine ⟨A', _, n + 1, insB S k x, rfl, ?_, (owned_vec ho).row, hle, .inr (fun b o hA => ?_), hb⟩
      · have hl : lsOf (insB S k x) (n + 1) = lsOf S k ++ x.data.toList :: lsOf (fun i => S (k + i)) (n - k) := by
          rw [show n + 1 = k + (1 + (n - k)) by omega, lsOf_add, lsOf_add]
          congr 1
          · exact lsOf_congr (fun i hi => by unfold insB; rw [if_pos hi])
          · simp only [lsOf, List.range_one, List.map_cons, List.map_nil, List.singleton_append]
            congr 1
            · unfold insB; simp
            · exact List.map_congr_left (fun i _ => by unfold insB; rw [if_neg (by omega), if_neg (by omega), show k + (1 + i) - 1 = k + i by omega])
        rw [hl, hsp, insS_split ha ?_]
        intro y hy
        rcases Nat.lt_or_ge k n with h | h
        · rw [show n - k = 1 + (n - k - 1) by omega, lsOf_add] at hy
          simp [lsOf] at hy
          rw [← hy]; exact hlt h
        · rw [show n - k = 0 by omega] at hy
          simp [lsOf] at hy
      · rcases owned_vec ho with h0 | ⟨g, hg, hge, _⟩
        · omega
        · rw [hg] at hA; injection hA with hA; injection hA with e1 _; omega
  refine hall.mono ?_
  rintro e w' ⟨A', c', m, S', rfl, hl, hr', hc, hat, hb⟩
  have hm : m = (insS x.data.toList (lsOf S n)).length := by rw [← hl, lsOf_len]
  subst hm
  refine ⟨A', c', rfl, hr'.congr (fun i hi => ?_), hc, hat, hb⟩
  unfold strV
  have h2 := rowS_ls (insS x.data.toList (lsOf S n))
  rw [row_of_ls (hl.trans h2.symm) i hi]
/-- The model's table within its loop. -/
structure SO (w : World) (z : Int) (g n c : Nat) (B : Option Addr) (m d : Nat) (H S' : Nat → ByteArray) (wr : World) : Prop where
  grown : w.grownBy wr (some g)
  box : NBX w.heap.size w.heap.size #[.int .i64 z, .slice (some ⟨g, 0, none⟩) n c, .slice B m d] 36 wr
  res : NBX w.heap.size (w.heap.size + 1) #[.int .i64 0, .slice none 0 0, .slice none 0 0] 36 wr
  out : GOwn wr 9 g n (strV S')
  st : GRow wr B m (strV H)
  ne : ∀ b o, B = some ⟨b, o, none⟩ → b ≠ g
section
variable {w wr w2 : World} {z : Int} {g n c m d : Nat} {B : Option Addr} {H S' : Nat → ByteArray}
theorem SO.b (h : SO w z g n c B m d H S' wr) (hb : Below wr.heap.size wr w2) : SO w z g n c B m d H S' w2 :=
  ⟨grown_two h.grown (grown_of_below hb _), h.box.b hb, h.res.b hb, h.out.b hb, h.st.b hb, h.ne⟩
theorem SO.set (h : SO w z g n c B m d H S' wr) (i : Nat) (x : ByteArray) : SO w z g n c B m d H (updC S' i x) (wr.setCell ⟨g, i, none⟩ (.string x)) :=
  ⟨grown_setCell h.grown _ _, nbx_set h.box (nbx_ne_own h.box h.out) _ _, nbx_set h.res (nbx_ne_own h.res h.out) _ _, (h.out.set i (.string x)).congr (fun j _ => by show (if j = i then Value.string x else Value.string (S' j)) = Value.string (if j = i then x else S' j); split <;> rfl), grow_rowG h.st (grown_setCell (World.grownBy.refl wr (some g)) _ _) h.ne, h.ne⟩
theorem SO.drewN (h : SO w z g n c B m d H S' wr) (k : Nat) : SO w z g n c B m d H S' (wr.drewN k) := h.b (below_drewN (Below.refl _ _) k)
end
/-- What the model's cuInsert leaves. -/
def InsIs (z : Int) (g n c : Nat) (S : Nat → ByteArray) (m : Nat) (H : Nat → ByteArray) (x : ByteArray) (mv : Nat) (w : World) (e : Ending) (w' : World) : Prop :=
  w.grownBy w' (some g) ∧ ((∃ S' L T B' d', InsR z n S m H x mv (some (S', L, T)) ∧ e = .returned (.tuple #[.agg #[.int .i64 z, .slice (some ⟨g, 0, none⟩) n c, .slice B' L.length d'], .int .i64 (T : Nat), .bool true]) ∧ GOwn w' 9 g n (strV S') ∧ GRow w' B' L.length (strV (rowS L)) ∧ L.length ≤ d' ∧ ∀ b o, B' = some ⟨b, o, none⟩ → b ≠ g)
    ∨ (InsR z n S m H x mv none ∧ e = .returned (.tuple #[.agg #[.int .i64 0, .slice none 0 0, .slice none 0 0], .int .i64 0, .bool false])))
theorem row_lsOf {w : World} {B : Option Addr} {m : Nat} {H : Nat → ByteArray} (h : GRow w B m (strV H)) : GRow w B m (strV (rowS (lsOf H m))) := h.congr (fun i hi => by
  unfold strV
  have hl := rowS_ls (lsOf H m)
  rw [lsOf_len] at hl
  rw [row_of_ls hl.symm i hi])
set_option maxHeartbeats 1000000 in
theorem spec_cuOther (z : Int) (n c : Nat) (A : Option Addr) (B : Option Addr) (m d : Nat) (x : ByteArray) (y : Nat) (w : World) (hx : x.size ≤ maxLen) (hz : sizeB z n = true) (hy : y ≤ 64) :
    Calls Try.prog 115 #[.agg #[.int .i64 z, .slice A n c, .slice B m d], .string x, .int .i64 y] w fun e w' => e = .returned (.int .i64 (((celF z x.data.toList n 0).toNat : Int) + (celF z x.data.toList n 1).toNat - y)) ∧ Below w.heap.size w w' := by
  have hzs := sizeB_out hz
  obtain ⟨a, ha, han⟩ := celF_bd (z := z) (x := x.data.toList) (P := n) 0 (by omega)
  obtain ⟨b, hb, hbn⟩ := celF_bd (z := z) (x := x.data.toList) (P := n) 1 (by omega)
  have HBX := Lib.hid ((boxed w #[.int .i64 z, .slice A n c, .slice B m d] 36).now)
  have HAL := Lib.hid ((Below.refl w.heap.size w).alloc (Nat.le_refl _) (.cells #[.int .i64 z, .slice A n c, .slice B m d] 36))
  have HE := Lib.hid (show ((celF z x.data.toList n 0).toNat : Int) + (celF z x.data.toList n 1).toNat - y = (a : Int) + b - y by rw [ha, hb, Int.toNat_natCast, Int.toNat_natCast])
  have hsz1 : (w.alloc (.cells #[.int .i64 z, .slice A n c, .slice B m d] 36)).heap.size = w.heap.size + 1 := by simp
  have k0 := HBX.out 0 _ rfl
  have k1 := HBX.out 1 _ rfl
  go_enter Try.func115, Try.ntmps115
  go_wp2_with fail
  generalize hw1 : w.alloc (.cells #[.int .i64 z, .slice A n c, .slice B m d] 36) = w1 at *
  clear hw1
  refine (spec_cuCells z n x _ hx hz).mono ?_; rintro e w' ⟨rfl, rfl⟩
  have HB3 := Lib.hid (HAL.out.trans ((celW_below z x.data.toList n w1).mono HAL.out.size))
  have HR4 := Lib.hid (celW_row z x.data.toList n w1)
  unfold celV
  generalize celW z x.data.toList n w1 = w5 at *
  obtain ⟨b4, off4, hA4, _, hcc4⟩ := HR4.out (by omega)
  injection hA4 with hA4; injection hA4 with e3 e4
  subst e3 e4
  have f0 := hcc4 0 (by omega)
  have f1 := hcc4 1 (by omega)
  rw [ha] at f0
  rw [hb] at f1
  simp only [Nat.zero_add, Nat.add_zero, hsz1] at f0 f1
  clear hcc4 ha hb
  go_wp2_with fail
  go_quiet (fail)
  go_wp2_with fail
  go_ret
  exact ⟨by rw [HE.out]; rfl, below_drewN HB3.out _⟩
set_option maxRecDepth 100000 in
set_option maxHeartbeats 8000000 in
theorem spec_cuInsert (z : Int) (n c : Nat) (S : Nat → ByteArray) (B : Option Addr) (m d : Nat) (H : Nat → ByteArray) (x : ByteArray) (mv g : Nat) (w : World) (hz : sizeB z n = true) (hmv : mv ≤ 40) (hm : m ≤ 4) (hmd : m ≤ d) (hc : ∀ i, i < n → CellOk z S n i) (hk : isKeyB x.data.toList = true) (ho : GOwn w 9 g n (strV S)) (hr : GRow w B m (strV H)) (hne : ∀ b o, B = some ⟨b, o, none⟩ → b ≠ g) :
    Calls Try.prog 84 #[.agg #[.int .i64 z, .slice (some ⟨g, 0, none⟩) n c, .slice B m d], .string x, .int .i64 mv] w (InsIs z g n c S m H x mv w) := by
  have hzs := sizeB_out hz
  have hks := isKeyB_size hk
  have hg := ho.lt
  have hal := (Below.refl w.heap.size w).alloc (Nat.le_refl _) (.cells #[.int .i64 z, .slice (some ⟨g, 0, none⟩) n c, .slice B m d] 36)
  have hsz1 : (w.alloc (.cells #[.int .i64 z, .slice (some ⟨g, 0, none⟩) n c, .slice B m d] 36)).heap.size = w.heap.size + 1 := by simp
  have hal2 := (Below.refl (w.alloc (.cells #[.int .i64 z, .slice (some ⟨g, 0, none⟩) n c, .slice B m d] 36)).heap.size (w.alloc (.cells #[.int .i64 z, .slice (some ⟨g, 0, none⟩) n c, .slice B m d] 36))).alloc (Nat.le_refl _) (.cells #[.int .i64 0, .slice none 0 0, .slice none 0 0] 36)
  have hbel := hal.trans (hal2.mono hal.size)
  have hres := nbx0 (w.alloc (.cells #[.int .i64 z, .slice (some ⟨g, 0, none⟩) n c, .slice B m d] 36)) #[.int .i64 0, .slice none 0 0, .slice none 0 0] 36
  rw [hsz1] at hres
  have S0 := Lib.hid (show SO w z g n c B m d H S _ from ⟨grown_of_below hbel _, (nbx0 w _ _).b hal2, mk_low (by omega) hres, ho.b hbel, hr.b hbel, hne⟩)
  have HIV := Lib.hid (fun t h => kInv (P := fun _ => True) (by omega : 1 ≤ n) hc hk (fun _ _ _ => trivial) trivial t h)
  have HCB := Lib.hid (fun (y : Byt) i => celF_bd (z := z) (x := y) (P := n) i (by omega))
  have FIN := Lib.hid (show ∀ (S' : Nat → ByteArray) (L : List Byt) (T : Nat) (B' : Option Addr) (d' : Nat) (wr : World), InsR z n S m H x mv (some (S', L, T)) → w.grownBy wr (some g) → GOwn wr 9 g n (strV S') → GRow wr B' L.length (strV (rowS L)) → L.length ≤ d' → (∀ b o, B' = some ⟨b, o, none⟩ → b ≠ g ∧ (0 < L.length → b ≠ w.heap.size + 1)) → InsIs z g n c S m H x mv w (.returned (.tuple #[.agg #[.int .i64 z, .slice (some ⟨g, 0, none⟩) n c, .slice B' L.length d'], .int .i64 (T : Nat), .bool true])) (((wr.setCell ⟨w.heap.size + 1, 0, none⟩ (.int .i64 z)).setCell ⟨w.heap.size + 1, 1, none⟩ (.slice (some ⟨g, 0, none⟩) n c)).setCell ⟨w.heap.size + 1, 2, none⟩ (.slice B' L.length d')) from fun S' L T B' d' wr hi hgr hgo hro hle hnb => by
    have hlt : w.heap.size ≤ w.heap.size + 1 := by omega
    have hgn : g ≠ w.heap.size + 1 := by omega
    have hrow : ∀ (W : World) (o : Nat) (v : Value), GRow W B' L.length (strV (rowS L)) → GRow (W.setCell ⟨w.heap.size + 1, o, none⟩ v) B' L.length (strV (rowS L)) := fun W o v h => by
      rcases Nat.eq_zero_or_pos L.length with h0 | h0
      · rw [h0]; exact GRow.zero
      · exact grow_rowG h (grown_setCell (World.grownBy.refl W (some (w.heap.size + 1))) o v) (fun b o hB => (hnb b o hB).2 h0)
    exact ⟨grown_hi (grown_hi (grown_hi hgr hlt _ _) hlt _ _) hlt _ _, .inl ⟨S', L, T, B', d', hi, rfl, ((hgo.setAt hgn _).setAt hgn _).setAt hgn _, hrow _ _ _ (hrow _ _ _ (hrow _ _ _ hro)), hle, fun b o hB => (hnb b o hB).1⟩⟩)
  have HBN := Lib.hid (show ∀ b o, B = some ⟨b, o, none⟩ → b ≠ g ∧ (0 < (lsOf H m).length → b ≠ w.heap.size + 1) from fun b o hB => ⟨hne b o hB, fun hm0 => by
    rw [lsOf_len] at hm0
    obtain ⟨b', o', hA, hlt, _⟩ := hr hm0
    rw [hB] at hA; injection hA with hA; injection hA with e1 e2; omega⟩)
  have HBW := Lib.hid (show ∀ b o, B = some ⟨b, o, none⟩ → 0 < m → b < w.heap.size from fun b o hB hm0 => by
    obtain ⟨b', o', hA, hlt, _⟩ := hr hm0
    rw [hB] at hA; injection hA with hA; injection hA with e1 e2; omega)
  have HROW := Lib.hid (show ∀ wr, GRow wr B m (strV H) → GRow wr B (lsOf H m).length (strV (rowS (lsOf H m))) from fun wr h => by rw [lsOf_len]; exact row_lsOf h)
  clear hal hal2 hbel hres ho hr hc hne hsz1
  have k0 := S0.out.box.cell 0 _ rfl
  have k1 := S0.out.box.cell 1 _ rfl
  have k2 := S0.out.box.cell 2 _ rfl
  go_enter Try.func84, Try.ntmps84
  go_wp2_with fail
  refine (spec_cuEmpty z n c S B m d x _ (some ⟨g, 0, none⟩) (by unfold maxLen; omega) hz S0.out.out.row).mono ?_; rintro e w3 ⟨rfl, hb3⟩
  have S3 := Lib.hid (S0.out.b hb3)
  clear hb3 k0 k1 k2 S0
  have k0 := S3.out.box.cell 0 _ rfl
  have k1 := S3.out.box.cell 1 _ rfl
  have k2 := S3.out.box.cell 2 _ rfl
  cases hO : empO z x.data.toList n S with
  | some i =>
    obtain ⟨hin, _, _⟩ := empO_lt (by omega) hO
    rw [show valO (some i) = (i : Int) from rfl]
    have s0 := S3.out.out.cell hin
    have sf := S3.out.out.frozen i
    unfold strV at s0
    have S4 := Lib.hid (S3.out.set i x)
    have y0 := S4.out.box.cell 0 _ rfl
    have y1 := S4.out.box.cell 1 _ rfl
    have y2 := S4.out.box.cell 2 _ rfl
    have r0 := S4.out.res.cell 0 _ rfl
    have r1 := S4.out.res.cell 1 _ rfl
    have r2 := S4.out.res.cell 2 _ rfl
    have rf0 := S4.out.res.free 0
    have rf1 := S4.out.res.free 1
    have rf2 := S4.out.res.free 2
    have HL := Lib.hid (lsOf_len H m)
    go_wp2_with fail
    refine bodyPost_ret (v := .tuple #[.agg #[.int .i64 z, .slice (some ⟨g, 0, none⟩) n c, .slice B m d], .int .i64 0, .bool true]) (by simp [results, Try.results84, go_sem, r0, r1, r2]) rfl ?_
    have hF := FIN.out _ _ _ B d _ (.settled i hO) S4.out.grown S4.out.out (HROW.out _ S4.out.st) (by rw [HL.out]; exact hmd) HBN.out
    rw [HL.out] at hF
    exact hF
  | none =>
    rw [show valO none = (-1 : Int) from rfl]
    have HO := Lib.hid hO
    clear hO
    go_wp2_with fail
    refine (spec_cuCells z n x _ (by unfold maxLen; omega) hz).mono ?_; rintro e w' ⟨rfl, rfl⟩
    have S4 := Lib.hid (S3.out.b (celW_below z x.data.toList n w3))
    have HR4 := Lib.hid (celW_row z x.data.toList n w3)
    unfold celV
    generalize celW z x.data.toList n w3 = w4 at *
    obtain ⟨q0, hq0, hq0n⟩ := HCB.out x.data.toList 0
    have HQ := Lib.hid (show kC z n S x 0 = q0 by show (celF z x.data.toList n 0).toNat = q0; rw [hq0, Int.toNat_natCast])
    obtain ⟨b, off, hA, _, hcc⟩ := HR4.out (by omega)
    injection hA with hA; injection hA with e1 e2
    subst e1 e2
    have hf := hcc 0 (by omega)
    rw [hq0] at hf
    simp only [Nat.add_zero] at hf
    clear hcc k0 k1 k2 hq0 S3 HR4
    go_wp2_with fail
    clear hf
    go_loopw [1, 10, 11] (fun k c' t wr => ∃ T : Nat, T ≤ mv ∧ k = .string (kK z n S x T) ∧ c' = .int .i64 (kC z n S x T) ∧ t = .int .i64 T ∧ Hid (∀ u, u < T → kE z n S x u = false) ∧ Hid (SO w z g n c B m d H (kS z n S x T) wr)) (fun _ _ t _ => mv - (intOf t).toNat)
    case atStart => exact ⟨0, Nat.zero_le _, rfl, by rw [HQ.out], rfl, Lib.hid (fun u hu => absurd hu (Nat.not_lt_zero _)), S4⟩
    case round =>
      obtain ⟨T, hT, rfl, rfl, rfl, HN, HT⟩ := hrel
      have HI := Lib.hid (HIV.out T HN.out)
      have hlt := HI.out.lt
      have hky := isKeyB_size HI.out.key
      have k0 := HT.out.box.cell 0 _ rfl
      have k1 := HT.out.box.cell 1 _ rfl
      have k2 := HT.out.box.cell 2 _ rfl
      have s0 := HT.out.out.cell hlt
      have sf := HT.out.out.frozen (kC z n S x T)
      unfold strV at s0
      have em : (kS z n S x T (kC z n S x T)).toList.isEmpty = kE z n S x T := by unfold kE; rw [ba_toList]
      cases hE : kE z n S x T with
      | true =>
        rw [hE] at em
        have HF := Lib.hid (HT.out.set (kC z n S x T) (kK z n S x T))
        have HE := Lib.hid (show KEnd z n S x mv T from ⟨hT, HN.out, .inl hE⟩)
        have HEE := Lib.hid hE
        have y0 := HF.out.box.cell 0 _ rfl
        have y1 := HF.out.box.cell 1 _ rfl
        have y2 := HF.out.box.cell 2 _ rfl
        have r0 := HF.out.res.cell 0 _ rfl
        have r1 := HF.out.res.cell 1 _ rfl
        have r2 := HF.out.res.cell 2 _ rfl
        have rf0 := HF.out.res.free 0
        have rf1 := HF.out.res.free 1
        have rf2 := HF.out.res.free 2
        have HL := Lib.hid (lsOf_len H m)
        clear hE
        have hF := FIN.out _ _ _ B d _ (.filled T HO.out HE.out HEE.out) HF.out.grown HF.out.out (HROW.out _ HF.out.st) (by rw [HL.out]; exact hmd) HBN.out
        rw [HL.out] at hF
        have HFF := Lib.hid hF
        clear hF
        generalize hcc : kC z n S x T = cc at *
        generalize hkk : kK z n S x T = kk at *
        go_wp2_with fail
        refine bodyPost_ret (v := .tuple #[.agg #[.int .i64 z, .slice (some ⟨g, 0, none⟩) n c, .slice B m d], .int .i64 (T : Nat), .bool true]) (by simp [results, Try.results84, go_sem, r0, r1, r2]) rfl ?_
        exact HFF.out
      | false =>
        rw [hE] at em
        have HEE := Lib.hid hE
        clear hE
        by_cases hTm : T = mv
        · have HE := Lib.hid (show KEnd z n S x mv T from ⟨hT, HN.out, .inr hTm⟩)
          subst hTm
          have r0 := HT.out.res.cell 0 _ rfl
          have r1 := HT.out.res.cell 1 _ rfl
          have r2 := HT.out.res.cell 2 _ rfl
          have rf0 := HT.out.res.free 0
          have rf1 := HT.out.res.free 1
          have rf2 := HT.out.res.free 2
          by_cases h4 : m = 4
          · have HI0 := Lib.hid (show InsR z n S m H x T none from .full T HO.out HE.out HEE.out h4)
            have HG := Lib.hid HT.out.grown
            have d4 : ((m : Int) == (4 : Int)) = true := by simp; omega
            have H4 := Lib.hid h4
            clear h4
            go_wp2_with fail
            refine bodyPost_ret (v := .tuple #[.agg #[.int .i64 0, .slice none 0 0, .slice none 0 0], .int .i64 0, .bool false]) (by simp [results, Try.results84, go_sem, r0, r1, r2]) rfl ?_
            have hlt : w.heap.size ≤ w.heap.size + 1 := by omega
            exact ⟨grown_hi (grown_hi (grown_hi HG.out hlt _ _) hlt _ _) hlt _ _, .inr ⟨HI0.out, rfl⟩⟩
          · have d4 : ((m : Int) == (4 : Int)) = false := by simp; omega
            have f2 := HT.out.box.free 2
            go_wp2_with fail
            refine (spec_l1PutS_at B m d H (kK z n S x T) wr (by omega) hmd HT.out.st).mono ?_; rintro e w6 ⟨A6, c6, rfl, hr6, hle6, hat6, hb6⟩
            have S6 := Lib.hid (HT.out.b hb6)
            have hszw := HT.out.box.lt
            have hszr := HT.out.res.lt
            have hgs := HT.out.out.lt
            have HA6 := Lib.hid (show ∀ b o, A6 = some ⟨b, o, none⟩ → b ≠ g ∧ b ≠ w.heap.size ∧ b ≠ w.heap.size + 1 from fun b o hA => by
              rcases hat6 with ⟨rfl, hm0⟩ | hge
              · have h1 := HBW.out b o hA hm0
                exact ⟨(HBN.out b o hA).1, by omega, by omega⟩
              · have h1 := hge b o hA
                exact ⟨by omega, by omega, by omega⟩)
            have HR6 := Lib.hid hr6
            have HLE := Lib.hid hle6
            have HIR := Lib.hid (InsR.stashed (z := z) (n := n) (S := S) (m := m) (H := H) (x := x) (mv := T) T HO.out HE.out HEE.out h4)
            clear hr6 hb6 hat6 k0 k1 k2 r0 r1 r2 rf0 rf1 rf2 s0 sf hle6
            generalize insS (kK z n S x T).data.toList (lsOf H m) = L at *
            have b2 := S6.out.box.cell 2 _ rfl
            have bf2 := S6.out.box.free 2
            have hne1 : w.heap.size + 1 ≠ w.heap.size := by omega
            have NA := S6.out.box.set 2 (.slice A6 L.length c6)
            have NR := nbx_set S6.out.res hne1 2 (.slice A6 L.length c6)
            have GA := grown_hi S6.out.grown (Nat.le_refl _) 2 (.slice A6 L.length c6)
            have OA := S6.out.out.setAt (Ne.symm (nbx_ne_own S6.out.box S6.out.out)) (o := 2) (.slice A6 L.length c6)
            have RA := grow_rowG HR6.out (grown_setCell (World.grownBy.refl w6 (some w.heap.size)) 2 (.slice A6 L.length c6)) (fun b o hA => (HA6.out b o hA).2.1)
            have y0 := NA.cell 0 _ rfl
            have y1 := NA.cell 1 _ rfl
            have y2 := NA.cell 2 _ rfl
            have r0 := NR.cell 0 _ rfl
            have r1 := NR.cell 1 _ rfl
            have r2 := NR.cell 2 _ rfl
            have rf0 := NR.free 0
            have rf1 := NR.free 1
            have rf2 := NR.free 2
            have HFF := Lib.hid (FIN.out _ L T A6 c6 _ HIR.out GA OA RA HLE.out (fun b o hA => ⟨(HA6.out b o hA).1, fun _ => (HA6.out b o hA).2.2⟩))
            clear NA NR GA OA RA
            go_wp2_with fail
            refine bodyPost_ret (v := .tuple #[.agg #[.int .i64 z, .slice (some ⟨g, 0, none⟩) n c, .slice A6 L.length c6], .int .i64 (T : Nat), .bool true]) (by simp [results, Try.results84, go_sem, r0, r1, r2]) rfl ?_
            exact HFF.out
        · have d1 : ((T : Int) == (mv : Int)) = false := by simp; omega
          have HN2 := Lib.hid (show ∀ u, u < T + 1 → kE z n S x u = false from fun u hu => by
            by_cases e : u = T
            · subst e; exact HEE.out
            · exact HN.out u (by omega))
          have HT2 := Lib.hid (show SO w z g n c B m d H (kS z n S x (T + 1)) (wr.setCell ⟨g, kC z n S x T, none⟩ (.string (kK z n S x T))) from HT.out.set (kC z n S x T) (kK z n S x T))
          have HK1 := Lib.hid (kK_succ (z := z) (n := n) (S := S) (x := x) T)
          have HI2 := Lib.hid (HIV.out (T + 1) HN2.out)
          have hky2 := isKeyB_size HI2.out.key
          have hk64 : kC z n S x T ≤ 64 := by omega
          rw [← HK1.out] at s0 em
          have y0 := HT2.out.box.cell 0 _ rfl
          have y1 := HT2.out.box.cell 1 _ rfl
          have y2 := HT2.out.box.cell 2 _ rfl
          have HCS := Lib.hid (kC_succ (z := z) (n := n) (S := S) (x := x) T)
          obtain ⟨a, ha, han⟩ := HCB.out (kK z n S x (T + 1)).data.toList 0
          obtain ⟨b, hb, hbn⟩ := HCB.out (kK z n S x (T + 1)).data.toList 1
          obtain ⟨j, hj, hjc⟩ := (HI.out.cell _ hlt (fun e => by have h := HEE.out; unfold kE at h; rw [e] at h; simp at h)).2
          have hsub : kC z n S x T ≤ a + b := by
            rw [← HK1.out] at hjc
            have e : j = 0 ∨ j = 1 := by omega
            rcases e with rfl | rfl
            · rw [ha] at hjc; omega
            · rw [hb] at hjc; omega
          have HVAL := Lib.hid (show ((celF z (kK z n S x (T + 1)).data.toList n 0).toNat : Int) + (celF z (kK z n S x (T + 1)).data.toList n 1).toNat - (kC z n S x T : Nat) = (kC z n S x (T + 1) : Nat) by rw [HCS.out, ha, hb, Int.toNat_natCast, Int.toNat_natCast]; omega)
          clear ha hb hjc
          go_wp2_with fail
          refine (spec_cuOther z n c (some ⟨g, 0, none⟩) B m d (kK z n S x (T + 1)) (kC z n S x T) _ (by unfold maxLen; omega) hz hk64).mono ?_; rintro e w5 ⟨rfl, hb5⟩
          rw [HVAL.out]
          have HT3 := Lib.hid (HT2.out.b hb5)
          clear hb5
          go_wp2_with fail
          go_roundw
          case rel => exact ⟨T + 1, by omega, rfl, rfl, by go_num, HN2, HT3⟩
          case measure => simp [intOf]; omega
end Go.Proofs.Ytfjimjbndkhkcaa
