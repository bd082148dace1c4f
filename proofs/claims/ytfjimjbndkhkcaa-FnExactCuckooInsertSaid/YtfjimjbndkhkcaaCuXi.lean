/- CuckooInsert: both sides. -/
import Derived.Test.YtfjimjbndkhkcaaCuXs
import Derived.Test.YtfjimjbndkhkcaaCuU
import Derived.Test.YtfjimjbndkhkcaaSrtW
namespace Go.Proofs.Ytfjimjbndkhkcaa
open Go.RowKit

theorem two_co' {W0 w2 w3 : World} {rb : Nat} {z : Int} {A B : Option Addr} {n c m d : Nat} {S H : Nat → ByteArray} (hb : Below W0.heap.size W0 w2) (hres : NBX W0.heap.size rb #[.int .i64 0, .slice none 0 0, .slice none 0 0] 36 w2) (ht : Two w2 A n c S B m d H w3) (hn : 1 ≤ n) :
    ∃ g, A = some ⟨g, 0, none⟩ ∧ CO W0 rb #[.int .i64 0, .slice none 0 0, .slice none 0 0] w3.heap.size z g c n S B d m H (w3.alloc (.cells #[.int .i64 z, .slice A n c, .slice B m d] 36)) := by
  have hle := hb.size
  rcases owned_vec ht.o1 with h0 | ⟨g, rfl, hg, ho⟩
  · omega
  · have hal := (Below.refl w3.heap.size w3).alloc (Nat.le_refl _) (.cells #[.int .i64 z, .slice (some ⟨g, 0, none⟩) n c, .slice B m d] 36)
    refine ⟨g, rfl, hb.trans ((ht.below.trans (hal.mono ht.below.size)).mono hle), (hres.b ht.below).b hal, mk_low (Nat.le_trans hle ht.below.size) (nbx0 w3 _ _), ho.b hal, Nat.le_trans hle hg, owned_b (owned_low ht.o2 hle) hal, ?_, ht.ne g rfl⟩
    have h1 := hres.lt
    have h2 := ht.below.size
    omega
/-- The stash's row has turned in place. -/
theorem CO.same {W0 wr w2 : World} {rb q g c n d m : Nat} {R : Array Value} {z : Int} {S H H' : Nat → ByteArray} {B : Option Addr} (h : CO W0 rb R q z g c n S B d m H wr) (hg : wr.grownBy w2 (Value.slice B m d).ownBlock) (ho : w2.ownsRow W0.heap.size 9 1 (.slice B m d) m (vals (strV H') m)) : CO W0 rb R q z g c n S B d m H' w2 :=
  ⟨h.below.trans (below_ownC h.st hg h.below.size), ⟨(hg.block rb h.res.lt (fun e => nbx_ne_row h.res h.st e.symm)).trans h.res.blk, h.res.ge⟩, ⟨(hg.block q h.box.lt (fun e => nbx_ne_row h.box h.st e.symm)).trans h.box.blk, h.box.ge⟩, h.out.of_block (hg.block g h.out.lt (fun e => h.ap e.symm)), h.ge, ho, h.ne, h.ap⟩
theorem CO.rows {W0 wr : World} {rb q g c n d m : Nat} {R : Array Value} {z : Int} {S H H' : Nat → ByteArray} {B : Option Addr} (h : CO W0 rb R q z g c n S B d m H wr) (e : ∀ i, i < m → H i = H' i) : CO W0 rb R q z g c n S B d m H' wr :=
  ⟨h.below, h.res, h.box, h.out, h.ge, by
    have h2 := h.st
    rwa [vals_congr (F := strV H) (G := strV H') (fun i hi => by unfold strV; rw [e i hi])] at h2, h.ne, h.ap⟩
/-- May a key be put in? -/
def InsOk (z : Int) (S : Nat → ByteArray) (n : Nat) (H : Nat → ByteArray) (m : Nat) (x : ByteArray) (mv : Int) : Prop :=
  CuOk z S n H m ∧ isKeyB x.data.toList = true ∧ (0 ≤ mv ∧ mv ≤ 40) ∧ (∀ i, i < n + m → catS S H n i ≠ x) ∧ (tabL S n H m).length ≠ 40
def Zero3 (w : World) (e : Ending) (w' : World) : Prop := e = .returned (.tuple #[.agg #[.int .i64 0, .slice none 0 0, .slice none 0 0], .int .i64 0, .bool false]) ∧ Below w.heap.size w w'
def InsI (o : Option ((Nat → ByteArray) × List Byt × Nat)) (z : Int) (n : Nat) (w : World) (e : Ending) (w' : World) : Prop :=
  (∃ S' L T, o = some (S', L, T) ∧ ∃ A c B d, e = .returned (.tuple #[.agg #[.int .i64 z, .slice A n c, .slice B L.length d], .int .i64 (T : Nat), .bool true]) ∧ Ow w.heap.size w'.heap.size 9 A n (strV S') w' ∧ Ow w.heap.size w'.heap.size 9 B L.length (strV (rowS L)) w' ∧ Apart n A L.length B ∧ Below w.heap.size w w') ∨ (o = none ∧ Zero3 w e w')
def InsS (o : Option ((Nat → ByteArray) × List Byt × Nat)) (z : Int) (n : Nat) (w : World) (e : Ending) (w' : World) : Prop :=
  (∃ S' L T, o = some (S', L, T) ∧ ∃ A c B d, e = .returned (.tuple #[.agg #[.int .i64 z, .slice A n c, .slice B L.length d], .int .i64 (T : Nat), .bool true]) ∧ GRow w' A n (strV S') ∧ GRow w' B L.length (strV (rowS L)) ∧ Below w.heap.size w w') ∨ (o = none ∧ Zero3 w e w')
theorem tab_mem {S H : Nat → ByteArray} {n m : Nat} {x : Byt} (hx : x ≠ []) : x ∈ tabL S n H m ↔ ∃ i, i < n + m ∧ (catS S H n i).data.toList = x := by
  unfold tabL
  rw [← catS_ls]
  constructor
  · intro h
    exact lsOf_mem.1 (List.mem_filter.1 h).1
  · intro h
    exact List.mem_filter.2 ⟨lsOf_mem.2 h, by cases x <;> simp_all⟩
theorem kept_has {S H : Nat → ByteArray} {n m : Nat} {x : ByteArray} (hx : x.data.toList ≠ []) : (∃ i, i < (keptL S n H m).length ∧ rowS (keptL S n H m) i = x) ↔ ∃ i, i < n + m ∧ catS S H n i = x := by
  have h1 : x.data.toList ∈ keptL S n H m ↔ x.data.toList ∈ tabL S n H m := keepS_mem
  rw [tab_mem hx] at h1
  constructor
  · rintro ⟨i, hi, he⟩
    have h2 : x.data.toList ∈ lsOf (rowS (keptL S n H m)) (keptL S n H m).length := lsOf_mem.2 ⟨i, hi, by rw [he]⟩
    rw [rowS_ls] at h2
    obtain ⟨j, hj, he2⟩ := h1.1 h2
    exact ⟨j, hj, ba_ext he2⟩
  · rintro ⟨i, hi, he⟩
    have h2 := h1.2 ⟨i, hi, by rw [he]⟩
    rw [← rowS_ls (keptL S n H m)] at h2
    obtain ⟨j, hj, he2⟩ := lsOf_mem.1 h2
    exact ⟨j, hj, ba_ext he2⟩
set_option maxHeartbeats 1000000 in
/-- slices.Contains of strings. -/
theorem contains_strs (A : Option Addr) (n c : Nat) (S : Nat → ByteArray) (x : ByteArray) (w : World) (hn : n ≤ 1048576) (hr : GRow w A n (strV S)) :
    Calls Try.prog 87 #[.slice A n c, .string x] w fun e w' => ∃ r : Bool, e = .returned (.bool r) ∧ (r = true ↔ ∃ i, i < n ∧ S i = x) ∧ w = w' := by
  have HI : Calls Try.prog 116 #[.slice A n c, .string x] w fun e w' => ∃ v : Int, e = .returned (.int .i64 v) ∧ (0 ≤ v ↔ ∃ i, i < n ∧ S i = x) ∧ w = w' := by
    have HR := Lib.hid hr
    clear hr
    go_enter Try.func116, Try.ntmps116
    go_wp2_with fail
    go_loop [8] (fun i => ∃ q : Nat, q ≤ n ∧ i = .int .i64 q ∧ Hid (∀ j, j < q → S j ≠ x)) (fun i => n - (intOf i).toNat)
    case atStart => exact ⟨0, Nat.zero_le _, rfl, Lib.hid (fun j hj => absurd hj (Nat.not_lt_zero _))⟩
    case round =>
      obtain ⟨q, hq, rfl, HN⟩ := hrel
      by_cases hlt : q < n
      · obtain ⟨b, off, rfl, hbl, hcc⟩ := HR.out (by omega)
        have hx : w.cell? ⟨b, off + q, none⟩ = some (.string (S q)) := hcc q hlt
        clear hcc
        by_cases he : S q = x
        · have d1 : (x.toList == (S q).toList) = true := by rw [ba_beq]; simpa using he.symm
          have HE := Lib.hid he
          clear he
          go_wp2_with fail
          go_ret
          exact ⟨q, rfl, ⟨fun _ => ⟨q, hlt, HE.out⟩, fun _ => by omega⟩, rfl⟩
        · have d1 : (x.toList == (S q).toList) = false := by rw [ba_beq]; simpa using fun e => he e.symm
          have HN2 := Lib.hid (show ∀ j, j < q + 1 → S j ≠ x from fun j hj => by
            by_cases e : j = q
            · subst e; exact he
            · exact HN.out j (by omega))
          clear he
          go_wp2_with fail
          go_round
          case rel => exact ⟨q + 1, by omega, by go_num, HN2⟩
          case measure => simp [intOf]; omega
      · obtain rfl : q = n := by omega
        go_wp2_with fail
        go_ret
        exact ⟨-1, rfl, ⟨fun h => by omega, fun ⟨i, hi, he⟩ => absurd he (HN.out i hi)⟩, rfl⟩
  have HII := Lib.hid HI
  clear HI hr
  go_enter Try.func87, Try.ntmps87
  go_wp2_with fail
  refine HII.out.mono ?_; rintro e w' ⟨v, rfl, hv, rfl⟩
  have HV := Lib.hid hv
  clear hv
  go_wp2_with fail
  go_ret
  exact ⟨_, rfl, by simp only [decide_eq_true_eq]; exact HV.out, rfl⟩
theorem impl_isMoves (mv : Int) (w : World) : Calls Try.prog 86 #[.int .i64 mv] w fun e w' => e = .returned (.bool (decide (0 ≤ mv ∧ mv ≤ 40))) ∧ w = w' := by
  by_cases h1 : 0 ≤ mv <;> by_cases h2 : mv ≤ 40
  all_goals
    go_enter Try.func86, Try.ntmps86
    go_wp2
    go_ret
    exact ⟨ret_bool (by simp [*]), rfl⟩
theorem spec_cuMoves (mv : Int) (w : World) : Calls Try.prog 83 #[.int .i64 mv] w fun e w' => e = .returned (.bool (decide (0 ≤ mv ∧ mv ≤ 40))) ∧ w = w' := by
  go_enter Try.func83, Try.ntmps83
  go_wp2_with fail
  refine (l1In_any _ _ _ _).mono ?_; rintro e w' ⟨rfl, rfl⟩
  go_wp2_with fail
  go_ret
  exact ⟨ret_bool (by simp), rfl⟩
theorem sort_ins {x : Byt} {l : List Byt} (h : Inc l) (hx : x ∉ l) : sortS (l ++ [x]) = insS x l := by
  have hn : (sortS (l ++ [x])).Nodup := (sortS_perm _).nodup_iff.2 (List.nodup_append.2 ⟨inc_nodup h, by simp, fun a ha b hb e => by simp at hb; subst hb; exact hx (e ▸ ha)⟩)
  refine inc_eq (inc_of_le (sortS_le _) hn) (inc_insS h) (fun y => ?_)
  rw [(sortS_perm _).mem_iff, mem_insS, List.mem_append, List.mem_singleton]
  exact Or.comm
theorem nbx_no_str {w : World} {base q o : Nat} {a : Int} {A B : Option Addr} {n c m d : Nat} {x : ByteArray} (h : NBX base q #[.int .i64 a, .slice A n c, .slice B m d] 36 w) (hs : w.cell? ⟨q, o, none⟩ = some (.string x)) : False := by
  simp only [World.cell?, h.blk] at hs
  match o, hs with
  | 0, hs => simp at hs
  | 1, hs => simp at hs
  | 2, hs => simp at hs
  | o + 3, hs => simp at hs
theorem CuK_row {L : List Byt} {w w' : World} {e : Ending} (h : LstIs L w e w') : ∃ A c, e = .returned (.slice A L.length c) ∧ GRow w' A L.length (strV (rowS L)) ∧ L.length ≤ c ∧ Below w.heap.size w w' := by
  obtain ⟨A, c, m, S, rfl, hl, hr, hc, hb⟩ := h
  have hm : m = L.length := by rw [← hl, lsOf_len]
  subst hm
  refine ⟨A, c, rfl, hr.congr (fun i hi => ?_), hc, hb⟩
  unfold strV
  rw [row_of_ls (S := S) (S' := rowS L) (n := L.length) (by rw [hl, rowS_ls]) i hi]
theorem kept_allC {z : Int} {S H : Nat → ByteArray} {n m : Nat} (h : CuOk z S n H m) : allS (fullS (lsOf S n ++ lsOf H m)) = keptL S n H m := (keepS_all h.nodup).symm
section
variable (z : Int) (A : Option Addr) (n c : Nat) (S : Nat → ByteArray) (B : Option Addr) (m d : Nat) (H : Nat → ByteArray) (x : ByteArray) (mv : Int) (w : World)
set_option maxRecDepth 100000 in
set_option maxHeartbeats 8000000 in
theorem impl_insert (hn : n ≤ 1048576) (hm : m ≤ 1048576) (hs : ∀ i, i < n → (S i).size ≤ maxLen) (hh : ∀ i, i < m → (H i).size ≤ maxLen) (hx : x.size ≤ maxLen) (h1 : GRow w A n (strV S)) (h2 : GRow w B m (strV H)) :
    Calls Try.prog 46 #[.agg #[.int .i64 z, .slice A n c, .slice B m d], .string x, .int .i64 mv] w fun e w' => (∃ k : Nat, mv = k ∧ InsOk z S n H m x mv ∧ ∃ o, InsR z n S m H x k o ∧ InsI o z n w e w') ∨ (¬ InsOk z S n H m x mv ∧ Zero3 w e w') := by
  have HS := Lib.hid hs
  have HH := Lib.hid hh
  have C0 := CL.start (z := z) (c := c) (d := d) h1 h2 36
  have HCL := Lib.hid (fun W (hb : Below (w.alloc (.cells #[.int .i64 z, .slice A n c, .slice B m d] 36)).heap.size (w.alloc (.cells #[.int .i64 z, .slice A n c, .slice B m d] 36)) W) => C0.b hb)
  have N1 := Lib.hid (nbx0 (w.alloc (.cells #[.int .i64 z, .slice A n c, .slice B m d] 36)) #[.int .i64 0, .slice none 0 0, .slice none 0 0] 36)
  have hsz : (w.alloc (.cells #[.int .i64 z, .slice A n c, .slice B m d] 36)).heap.size = w.heap.size + 1 := by simp
  have HB0 := Lib.hid ((Below.refl w.heap.size w).alloc (Nat.le_refl _) (.cells #[.int .i64 z, .slice A n c, .slice B m d] 36))
  have HSZ := Lib.hid hsz
  clear hs hh h1 h2 C0 hsz
  go_enter Try.func46, Try.ntmps46
  go_wp2_with fail
  generalize hW0 : w.alloc (.cells #[.int .i64 z, .slice A n c, .slice B m d] 36) = W0 at *
  clear hW0
  have N1' := Lib.hid (HSZ.out ▸ N1.out : NBX W0.heap.size (w.heap.size + 1) #[.int .i64 0, .slice none 0 0, .slice none 0 0] 36 (W0.alloc (.cells #[.int .i64 0, .slice none 0 0, .slice none 0 0] 36)))
  have hb1 := (Below.refl W0.heap.size W0).alloc (Nat.le_refl _) (.cells #[.int .i64 0, .slice none 0 0, .slice none 0 0] 36)
  have C1 := HCL.out _ hb1
  have FZ := Lib.hid (show ∀ wr, Below W0.heap.size W0 wr → Below w.heap.size w (((wr.setCell ⟨w.heap.size + 1, 0, none⟩ (.int .i64 0)).setCell ⟨w.heap.size + 1, 1, none⟩ (.slice none 0 0)).setCell ⟨w.heap.size + 1, 2, none⟩ (.slice none 0 0)) from fun wr hb => by
    have hle : w.heap.size ≤ W0.heap.size := by have := HSZ.out; omega
    have h0 := HB0.out.trans (hb.mono hle)
    exact ((h0.setCell (p := ⟨w.heap.size + 1, 0, none⟩) (by show _ ≤ w.heap.size + 1; omega) _).setCell (p := ⟨w.heap.size + 1, 1, none⟩) (by show _ ≤ w.heap.size + 1; omega) _).setCell (p := ⟨w.heap.size + 1, 2, none⟩) (by show _ ≤ w.heap.size + 1; omega) _)
  refine (impl_isCuckoo z A n c S B m d H _ hn hm HS.out HH.out C1.r1 C1.r2).mono ?_; rintro e w2 ⟨r, rfl, hr, hb⟩
  have N2 := Lib.hid (N1'.out.b hb)
  have HB2 := Lib.hid (hb1.trans (hb.mono hb1.size))
  have HR := Lib.hid hr
  clear hb hb1 C1 N1 N1' hr
  cases r with
  | false =>
    have x0 := N2.out.cell 0 _ rfl
    have x1 := N2.out.cell 1 _ rfl
    have x2 := N2.out.cell 2 _ rfl
    have f0 := N2.out.free 0
    have f1 := N2.out.free 1
    have f2 := N2.out.free 2
    go_wp2_with fail
    refine bodyPost_ret (v := .tuple #[.agg #[.int .i64 0, .slice none 0 0, .slice none 0 0], .int .i64 0, .bool false]) (by simp [results, Try.results46, go_sem, x0, x1, x2]) rfl ?_
    exact .inr ⟨(fun h => by have := HR.out.2 h.1; cases this), rfl, FZ.out _ HB2.out⟩
  | true =>
  have HOK := Lib.hid (HR.out.1 rfl)
  cases hk : isKeyB x.data.toList with
  | false =>
    have x0 := N2.out.cell 0 _ rfl
    have x1 := N2.out.cell 1 _ rfl
    have x2 := N2.out.cell 2 _ rfl
    have f0 := N2.out.free 0
    have f1 := N2.out.free 1
    have f2 := N2.out.free 2
    go_wp2_with fail
    refine (impl_isKey x _ hx).mono ?_; rintro e w' ⟨rfl, rfl⟩
    rw [hk]
    go_wp2_with fail
    refine bodyPost_ret (v := .tuple #[.agg #[.int .i64 0, .slice none 0 0, .slice none 0 0], .int .i64 0, .bool false]) (by simp [results, Try.results46, go_sem, x0, x1, x2]) rfl ?_
    exact .inr ⟨(fun h => by have := h.2.1; rw [hk] at this; cases this), rfl, FZ.out _ HB2.out⟩
  | true =>
  by_cases hmv : 0 ≤ mv ∧ mv ≤ 40
  rotate_left
  · have x0 := N2.out.cell 0 _ rfl
    have x1 := N2.out.cell 1 _ rfl
    have x2 := N2.out.cell 2 _ rfl
    have f0 := N2.out.free 0
    have f1 := N2.out.free 1
    have f2 := N2.out.free 2
    go_wp2_with fail
    refine (impl_isKey x _ hx).mono ?_; rintro e w' ⟨rfl, rfl⟩
    rw [hk]
    go_wp2_with fail
    refine (impl_isMoves mv _).mono ?_; rintro e w' ⟨rfl, rfl⟩
    rw [decide_eq_false hmv]
    go_wp2_with fail
    refine bodyPost_ret (v := .tuple #[.agg #[.int .i64 0, .slice none 0 0, .slice none 0 0], .int .i64 0, .bool false]) (by simp [results, Try.results46, go_sem, x0, x1, x2]) rfl ?_
    exact .inr ⟨(fun h => hmv h.2.2.1), rfl, FZ.out _ HB2.out⟩
  obtain ⟨k, rfl⟩ : ∃ k : Nat, mv = k := ⟨mv.toNat, by omega⟩
  have hk40 : k ≤ 40 := by omega
  have hzs := sizeB_out HOK.out.size
  have hm4 := HOK.out.few
  have hz := HOK.out.size
  have hks := isKeyB_size hk
  have C2 := Lib.hid (HCL.out _ HB2.out)
  have k0 := C2.out.c0
  have k1 := C2.out.c1
  have k2 := C2.out.c2
  have HKL := Lib.hid (show (keptL S n H m).length = (tabL S n H m).length from keepS_len _)
  have HKH := Lib.hid (kept_has (S := S) (H := H) (n := n) (m := m) (key_ne hk))
  go_wp2_with fail
  refine (impl_isKey x _ hx).mono ?_; rintro e w' ⟨rfl, rfl⟩
  rw [hk]
  go_wp2_with fail
  refine (impl_isMoves k _).mono ?_; rintro e w' ⟨rfl, rfl⟩
  rw [decide_eq_true hmv]
  go_wp2_with fail
  refine (impl_keysIn z A n c S B m d H w2 (by omega) (by omega) (by omega) C2.out.r1 C2.out.r2).mono ?_; rintro e w3 ⟨A3, c3, rfl, ho3, hb3⟩
  have N3 := Lib.hid (N2.out.b hb3)
  have HB3 := Lib.hid (HB2.out.trans (hb3.mono HB2.out.size))
  have HR3 := Lib.hid (owned_vec ho3).row
  have hLn : (keptL S n H m).length ≤ 1048576 := by rw [HKL.out]; have := HOK.out.many; omega
  clear ho3 hb3 k0 k1 k2 C2
  generalize hLL : keptL S n H m = L at *
  by_cases h40 : L.length = 40
  · have d40 : ((L.length : Int) == (40 : Int)) = true := by simp; omega
    have H40 := Lib.hid h40
    clear h40
    have x0 := N3.out.cell 0 _ rfl
    have x1 := N3.out.cell 1 _ rfl
    have x2 := N3.out.cell 2 _ rfl
    have f0 := N3.out.free 0
    have f1 := N3.out.free 1
    have f2 := N3.out.free 2
    go_wp2_with fail
    refine bodyPost_ret (v := .tuple #[.agg #[.int .i64 0, .slice none 0 0, .slice none 0 0], .int .i64 0, .bool false]) (by simp [results, Try.results46, go_sem, x0, x1, x2]) rfl ?_
    exact .inr ⟨(fun h => h.2.2.2.2 (by rw [← HKL.out]; exact H40.out)), rfl, FZ.out _ HB3.out⟩
  have d40 : ((L.length : Int) == (40 : Int)) = false := by simp; omega
  go_wp2_with fail
  refine (contains_strs A3 L.length c3 (rowS L) x _ hLn HR3.out).mono ?_; rintro e w' ⟨r2, rfl, hr2, rfl⟩
  have HR2 := Lib.hid hr2
  clear hr2
  cases r2 with
  | true =>
    have x0 := N3.out.cell 0 _ rfl
    have x1 := N3.out.cell 1 _ rfl
    have x2 := N3.out.cell 2 _ rfl
    have f0 := N3.out.free 0
    have f1 := N3.out.free 1
    have f2 := N3.out.free 2
    go_wp2_with fail
    refine bodyPost_ret (v := .tuple #[.agg #[.int .i64 0, .slice none 0 0, .slice none 0 0], .int .i64 0, .bool false]) (by simp [results, Try.results46, go_sem, x0, x1, x2]) rfl ?_
    exact .inr ⟨(fun h => by obtain ⟨i, hi, he⟩ := HKH.out.1 (HR2.out.1 (by first | rfl | trivial)); exact h.2.2.2.1 i hi he), rfl, FZ.out _ HB3.out⟩
  | false =>
  have HGOOD := Lib.hid (show InsOk z S n H m x k from ⟨HOK.out, hk, hmv, (fun i hi he => by have := HR2.out.2 (HKH.out.2 ⟨i, hi, he⟩); cases this), by rw [← HKL.out]; exact h40⟩)
  have C3 := Lib.hid (HCL.out _ HB3.out)
  have k0 := C3.out.c0
  have k1 := C3.out.c1
  have k2 := C3.out.c2
  have HCELL := Lib.hid HOK.out.cell
  have HSK := Lib.hid (keysB_inc.1 HOK.out.keys)
  have HTI := Lib.hid (show ∀ i, i < n → (S i).data.toList ≠ [] → (S i).data.toList ∉ lsOf H m from fun i hi hne hin => by
    obtain ⟨j, hj, he⟩ := lsOf_mem.1 hin
    have h1 : catS S H n i = S i := by unfold catS; rw [if_pos hi]
    have h2 : catS S H n (n + j) = H j := by unfold catS; rw [if_neg (by omega), Nat.add_sub_cancel_left]
    have := tab_inj HOK.out (i := i) (j := n + j) (by omega) (by omega) (by rw [h1]; exact hne) (by rw [h1, h2]; exact (ba_ext he).symm)
    omega)
  have HXI := Lib.hid (show x.data.toList ∉ lsOf H m from fun hin => by
    obtain ⟨j, hj, he⟩ := lsOf_mem.1 hin
    have h2 : catS S H n (n + j) = H j := by unfold catS; rw [if_neg (by omega), Nat.add_sub_cancel_left]
    exact HGOOD.out.2.2.2.1 (n + j) (by omega) (by rw [h2]; exact ba_ext he))
  clear HKH HKL HR2 HR3 d40 h40 hLn hLL
  go_wp2_with fail
  refine (impl_clone z A n c S B m d H w3 (by omega) (by omega) C3.out.r1 C3.out.r2).mono ?_; rintro e w4 ⟨A4, c4, B4, d4, rfl, ht⟩
  obtain ⟨g, rfl, hco⟩ := two_co' (z := z) HB3.out N3.out ht (by omega)
  have HC := Lib.hid hco
  clear hco ht k0 k1 k2 C3
  have x0 := HC.out.box.cell 0 _ rfl
  have x1 := HC.out.box.cell 1 _ rfl
  have x2 := HC.out.box.cell 2 _ rfl
  have FIN := Lib.hid (show ∀ (S' : Nat → ByteArray) (LL : List Byt) (T : Nat) (B' : Option Addr) (d' : Nat) (wr : World), InsR z n S m H x k (some (S', LL, T)) → CO W0 (w.heap.size + 1) #[.int .i64 0, .slice none 0 0, .slice none 0 0] w4.heap.size z g c4 n S' B' d' LL.length (rowS LL) wr → (∃ k' : Nat, (k : Int) = k' ∧ InsOk z S n H m x k ∧ ∃ o, InsR z n S m H x k' o ∧ InsI o z n w (.returned (.tuple #[.agg #[.int .i64 z, .slice (some ⟨g, 0, none⟩) n c4, .slice B' LL.length d'], .int .i64 (T : Nat), .bool true])) (((wr.setCell ⟨w.heap.size + 1, 0, none⟩ (.int .i64 z)).setCell ⟨w.heap.size + 1, 1, none⟩ (.slice (some ⟨g, 0, none⟩) n c4)).setCell ⟨w.heap.size + 1, 2, none⟩ (.slice B' LL.length d'))) from fun S' LL T B' d' wr hi hco => by
    have hF := ((hco.resSet 0 (.int .i64 z)).resSet 1 (.slice (some ⟨g, 0, none⟩) n c4)).resSet 2 (.slice B' LL.length d')
    obtain ⟨o1, o2, o3⟩ := hF.fin
    have hle0 : w.heap.size ≤ W0.heap.size := by have := HSZ.out; omega
    exact ⟨k, rfl, HGOOD.out, _, hi, .inl ⟨S', LL, T, rfl, _, _, _, _, rfl, o1.mono hle0 (Nat.le_refl _), o2.mono hle0 (Nat.le_refl _), o3, (HB0.out).trans (hF.below.mono hle0)⟩⟩)
  go_wp2_with fail
  generalize hw5 : w4.alloc (.cells #[.int .i64 z, .slice (some ⟨g, 0, none⟩) n c4, .slice B4 m d4] 36) = w5 at *
  clear hw5
  refine (impl_settle z n c4 S B4 m d4 x w5 g hx hz HC.out.out).mono ?_; rintro e w6 ⟨rfl, hg6, ho6⟩
  have HC6 := Lib.hid (HC.out.slotG hg6 ho6)
  clear hg6 ho6 x0 x1 x2
  have HLN := Lib.hid (lsOf_len H m)
  have HRW := Lib.hid (show ∀ i, i < m → H i = rowS (lsOf H m) i from fun i hi => row_of_ls (by
    have h := rowS_ls (lsOf H m)
    rw [lsOf_len] at h
    exact h.symm) i hi)
  cases hO : empO z x.data.toList n S with
  | some i =>
    rw [hO] at HC6
    have r0 := HC6.out.res.cell 0 _ rfl
    have r1 := HC6.out.res.cell 1 _ rfl
    have r2 := HC6.out.res.cell 2 _ rfl
    have rf0 := HC6.out.res.free 0
    have rf1 := HC6.out.res.free 1
    have rf2 := HC6.out.res.free 2
    have x0 := HC6.out.box.cell 0 _ rfl
    have x1 := HC6.out.box.cell 1 _ rfl
    have x2 := HC6.out.box.cell 2 _ rfl
    have hF := FIN.out (updC S i x) (lsOf H m) 0 B4 d4 w6 (.settled i hO) (by rw [HLN.out]; exact HC6.out.rows HRW.out)
    rw [HLN.out] at hF
    have HFF := Lib.hid hF
    clear hF
    go_wp2_with fail
    refine bodyPost_ret (v := .tuple #[.agg #[.int .i64 z, .slice (some ⟨g, 0, none⟩) n c4, .slice B4 m d4], .int .i64 0, .bool true]) (by simp [results, Try.results46, go_sem, r0, r1, r2]) rfl ?_
    exact .inl HFF.out
  | none =>
    rw [hO] at HC6
    have HC7 := Lib.hid (show CO W0 (w.heap.size + 1) #[.int .i64 0, .slice none 0 0, .slice none 0 0] w4.heap.size z g c4 n S B4 d4 m H w6 from HC6.out)
    have HO := Lib.hid hO
    clear hO HC6
    have x0 := HC7.out.box.cell 0 _ rfl
    have x1 := HC7.out.box.cell 1 _ rfl
    have x2 := HC7.out.box.cell 2 _ rfl
    go_wp2_with fail
    refine (impl_throwOut z n c4 S B4 m d4 x k g w6 hz hk40 HCELL.out hk HC7.out.out).mono ?_; rintro e w7 ⟨T, hT, hg7, hend⟩
    have HT := Lib.hid hT
    have HIN := Lib.hid (kInv (P := fun y => y ∉ lsOf H m) (by omega : 1 ≤ n) HCELL.out hk HTI.out HXI.out T hT.no)
    clear hT x0 x1 x2
    rcases hend with ⟨hE, rfl, ho7⟩ | ⟨hE, rfl, ho7⟩
    · have HC8 := Lib.hid (HC7.out.slotG hg7 ho7)
      have HEE := Lib.hid hE
      clear hE ho7 hg7
      have r0 := HC8.out.res.cell 0 _ rfl
      have r1 := HC8.out.res.cell 1 _ rfl
      have r2 := HC8.out.res.cell 2 _ rfl
      have rf0 := HC8.out.res.free 0
      have rf1 := HC8.out.res.free 1
      have rf2 := HC8.out.res.free 2
      have x0 := HC8.out.box.cell 0 _ rfl
      have x1 := HC8.out.box.cell 1 _ rfl
      have x2 := HC8.out.box.cell 2 _ rfl
      have hF := FIN.out _ (lsOf H m) T B4 d4 w7 (.filled T HO.out HT.out HEE.out) (by rw [HLN.out]; exact HC8.out.rows HRW.out)
      rw [HLN.out] at hF
      have HFF := Lib.hid hF
      clear hF
      go_wp2_with fail
      refine bodyPost_ret (v := .tuple #[.agg #[.int .i64 z, .slice (some ⟨g, 0, none⟩) n c4, .slice B4 m d4], .int .i64 (T : Nat), .bool true]) (by simp [results, Try.results46, go_sem, r0, r1, r2]) rfl ?_
      exact .inl HFF.out
    · have HC8 := Lib.hid (HC7.out.slotG hg7 ho7)
      have HEE := Lib.hid hE
      clear hE ho7 hg7
      have hkt := isKeyB_size HIN.out.key
      have em : (kK z n S x T).toList.isEmpty = false := by
        rw [ba_toList]
        have h := key_ne HIN.out.key
        cases hh : (kK z n S x T).data.toList with
        | nil => exact absurd hh h
        | cons a l => rfl
      have r0 := HC8.out.res.cell 0 _ rfl
      have r1 := HC8.out.res.cell 1 _ rfl
      have r2 := HC8.out.res.cell 2 _ rfl
      have rf0 := HC8.out.res.free 0
      have rf1 := HC8.out.res.free 1
      have rf2 := HC8.out.res.free 2
      have x0 := HC8.out.box.cell 0 _ rfl
      have x1 := HC8.out.box.cell 1 _ rfl
      have x2 := HC8.out.box.cell 2 _ rfl
      by_cases h4 : m = 4
      · have HI0 := Lib.hid (show InsR z n S m H x k none from .full T HO.out HT.out HEE.out h4)
        have dm4 : ((m : Int) == (4 : Int)) = true := by simp; omega
        have HB8 := Lib.hid HC8.out.below
        clear h4
        go_wp2_with fail
        refine bodyPost_ret (v := .tuple #[.agg #[.int .i64 0, .slice none 0 0, .slice none 0 0], .int .i64 0, .bool false]) (by simp [results, Try.results46, go_sem, r0, r1, r2]) rfl ?_
        exact .inl ⟨k, rfl, HGOOD.out, none, HI0.out, .inr ⟨rfl, rfl, FZ.out _ HB8.out⟩⟩
      · have dm4 : ((m : Int) == (4 : Int)) = false := by simp; omega
        have HIR := Lib.hid (InsR.stashed (z := z) (n := n) (S := S) (m := m) (H := H) (x := x) (mv := k) T HO.out HT.out HEE.out h4)
        have hlast := HIN.out.own
        have HSO := Lib.hid (sort_ins HSK.out.2.2 hlast)
        generalize hkk : kK z n S x T = kk at *
        let F : Nat → ByteArray := catS H (fun _ => kk) m
        have HFL := Lib.hid (show lsOf F (m + 1) = lsOf H m ++ [kk.data.toList] by
          have h := catS_ls H (fun _ => kk) m 1
          rw [h]; simp [lsOf])
        have HV := Lib.hid (show strV F m = .string kk by show Value.string (catS H (fun _ => kk) m m) = .string kk; unfold catS; rw [if_neg (Nat.lt_irrefl m)])
        have HR := Lib.hid (show w7.ownsRow W0.heap.size 9 1 (.slice B4 m d4) m (vals (strV F) m) from vals_congr (F := strV H) (G := strV F) (fun i hi => by show Value.string (H i) = Value.string (catS H (fun _ => kk) m i); unfold catS; rw [if_pos hi]) ▸ HC8.out.st)
        have hglt := HC8.out.out.lt
        have hs8 := HC8.out.below.size
        clear r0 r1 r2 rf0 rf1 rf2 hlast
        generalize F = F' at *
        go_wp2_with (at_builtin; refine wpList_push4 rfl _ _ 25 rfl W0.heap.size 9 (.string ByteArray.empty) 16 Try.underlying25 infoS rfl B4 m d4 (strV F') (.string kk) w7 rfl HR.out rfl HV.out rfl (by omega) (by omega) hs8 ?_)
        intro A' c' w8 ho8 _ hg8 hat8
        have HAP := Lib.hid (show (Value.slice A' (m + 1) c').ownBlock ≠ some g from fun e => by
          rcases hat8 with h6 | h6
          · exact HC8.out.ap (h6.symm.trans e)
          · rw [h6] at e; injection e with e; omega)
        have HX8 := Lib.hid (show NBX W0.heap.size w4.heap.size #[.int .i64 z, .slice (some ⟨g, 0, none⟩) n c4, .slice B4 m d4] 36 w8 from ⟨(hg8.block w4.heap.size (HC8.out.al (.cells #[.string kk] 9)).box.lt (fun e => nbx_ne_row HC8.out.box HC8.out.st e.symm)).trans (HC8.out.al (.cells #[.string kk] 9)).box.blk, HC8.out.box.ge⟩)
        have HC9 := Lib.hid ((HC8.out.al (.cells #[.string kk] 9)).turn hg8 ho8 HAP.out)
        obtain ⟨g2, rfl⟩ : ∃ g2, A' = some ⟨g2, 0, none⟩ := by
          rcases owned_vec HC9.out.st with h0 | ⟨g2, rfl, _, _⟩
          · omega
          · exact ⟨g2, rfl⟩
        have z0 := HX8.out.cell 2 _ rfl
        have z1 := HX8.out.free 2
        have y0 := HC9.out.box.cell 0 _ rfl
        have y1 := HC9.out.box.cell 1 _ rfl
        have y2 := HC9.out.box.cell 2 _ rfl
        clear ho8 hg8 hat8 x0 x1 x2
        go_wp2_with fail
        refine (sort_strs W0.heap.size g2 (m + 1) c' F' _ (by omega) HC9.out.st).mono ?_; rintro e w9 ⟨rfl, ho9, hg9⟩
        have HC10 := Lib.hid (HC9.out.same hg9 ho9)
        clear ho9 hg9 y0 y1 y2 z0 z1
        have r0 := HC10.out.res.cell 0 _ rfl
        have r1 := HC10.out.res.cell 1 _ rfl
        have r2 := HC10.out.res.cell 2 _ rfl
        have rf0 := HC10.out.res.free 0
        have rf1 := HC10.out.res.free 1
        have rf2 := HC10.out.res.free 2
        have x0 := HC10.out.box.cell 0 _ rfl
        have x1 := HC10.out.box.cell 1 _ rfl
        have x2 := HC10.out.box.cell 2 _ rfl
        have hln : (insS kk.data.toList (lsOf H m)).length = m + 1 := by rw [← HSO.out, len_sortS]; simp [lsOf_len]
        have hF := FIN.out _ (insS kk.data.toList (lsOf H m)) T (some ⟨g2, 0, none⟩) c' w9 HIR.out (by rw [hln, ← HSO.out, ← HFL.out]; exact HC10.out)
        rw [hln] at hF
        have HFF := Lib.hid hF
        clear hF hln
        go_wp2_with fail
        refine bodyPost_ret (v := .tuple #[.agg #[.int .i64 z, .slice (some ⟨g, 0, none⟩) n c4, .slice (some ⟨g2, 0, none⟩) (m + 1) c'], .int .i64 (T : Nat), .bool true]) (by simp [results, Try.results46, go_sem, r0, r1, r2]) rfl ?_
        exact .inl HFF.out
set_option maxRecDepth 100000 in
set_option maxHeartbeats 8000000 in
theorem spec_insert (hn : n ≤ 1048576) (hm : m ≤ 1048576) (hs : ∀ i, i < n → (S i).size ≤ maxLen) (hh : ∀ i, i < m → (H i).size ≤ maxLen) (hx : x.size ≤ maxLen) (h1 : GRow w A n (strV S)) (h2 : GRow w B m (strV H)) :
    Calls Try.prog 45 #[.agg #[.int .i64 z, .slice A n c, .slice B m d], .string x, .int .i64 mv] w fun e w' => (∃ k : Nat, mv = k ∧ InsOk z S n H m x mv ∧ ∃ o, InsR z n S m H x k o ∧ InsS o z n w e w') ∨ (¬ InsOk z S n H m x mv ∧ Zero3 w e w') := by
  have HS := Lib.hid hs
  have HH := Lib.hid hh
  have C0 := CL.start (z := z) (c := c) (d := d) h1 h2 36
  have HCL := Lib.hid (fun W (hb : Below (w.alloc (.cells #[.int .i64 z, .slice A n c, .slice B m d] 36)).heap.size (w.alloc (.cells #[.int .i64 z, .slice A n c, .slice B m d] 36)) W) => C0.b hb)
  have N1 := Lib.hid (nbx0 (w.alloc (.cells #[.int .i64 z, .slice A n c, .slice B m d] 36)) #[.int .i64 0, .slice none 0 0, .slice none 0 0] 36)
  have hsz : (w.alloc (.cells #[.int .i64 z, .slice A n c, .slice B m d] 36)).heap.size = w.heap.size + 1 := by simp
  have HB0 := Lib.hid ((Below.refl w.heap.size w).alloc (Nat.le_refl _) (.cells #[.int .i64 z, .slice A n c, .slice B m d] 36))
  have HSZ := Lib.hid hsz
  clear hs hh h1 h2 C0 hsz
  go_enter Try.func45, Try.ntmps45
  go_wp2_with fail
  generalize hW0 : w.alloc (.cells #[.int .i64 z, .slice A n c, .slice B m d] 36) = W0 at *
  clear hW0
  have N1' := Lib.hid (HSZ.out ▸ N1.out : NBX W0.heap.size (w.heap.size + 1) #[.int .i64 0, .slice none 0 0, .slice none 0 0] 36 (W0.alloc (.cells #[.int .i64 0, .slice none 0 0, .slice none 0 0] 36)))
  have hb1 := (Below.refl W0.heap.size W0).alloc (Nat.le_refl _) (.cells #[.int .i64 0, .slice none 0 0, .slice none 0 0] 36)
  have C1 := HCL.out _ hb1
  have FZ := Lib.hid (show ∀ wr, Below W0.heap.size W0 wr → Below w.heap.size w (((wr.setCell ⟨w.heap.size + 1, 0, none⟩ (.int .i64 0)).setCell ⟨w.heap.size + 1, 1, none⟩ (.slice none 0 0)).setCell ⟨w.heap.size + 1, 2, none⟩ (.slice none 0 0)) from fun wr hb => by
    have hle : w.heap.size ≤ W0.heap.size := by have := HSZ.out; omega
    have h0 := HB0.out.trans (hb.mono hle)
    exact ((h0.setCell (p := ⟨w.heap.size + 1, 0, none⟩) (by show _ ≤ w.heap.size + 1; omega) _).setCell (p := ⟨w.heap.size + 1, 1, none⟩) (by show _ ≤ w.heap.size + 1; omega) _).setCell (p := ⟨w.heap.size + 1, 2, none⟩) (by show _ ≤ w.heap.size + 1; omega) _)
  refine (spec_cuGood z A n c S B m d H _ hn hm HS.out HH.out C1.r1 C1.r2).mono ?_; rintro e w2 ⟨r, rfl, hr, hb⟩
  have N2 := Lib.hid (N1'.out.b hb)
  have HB2 := Lib.hid (hb1.trans (hb.mono hb1.size))
  have HR := Lib.hid hr
  clear hb hb1 C1 N1 N1' hr
  cases r with
  | false =>
    have x0 := N2.out.cell 0 _ rfl
    have x1 := N2.out.cell 1 _ rfl
    have x2 := N2.out.cell 2 _ rfl
    have f0 := N2.out.free 0
    have f1 := N2.out.free 1
    have f2 := N2.out.free 2
    go_wp2_with fail
    refine bodyPost_ret (v := .tuple #[.agg #[.int .i64 0, .slice none 0 0, .slice none 0 0], .int .i64 0, .bool false]) (by simp [results, Try.results45, go_sem, x0, x1, x2]) rfl ?_
    exact .inr ⟨(fun h => by have := HR.out.2 h.1; cases this), rfl, FZ.out _ HB2.out⟩
  | true =>
  have HOK := Lib.hid (HR.out.1 rfl)
  cases hk : isKeyB x.data.toList with
  | false =>
    have x0 := N2.out.cell 0 _ rfl
    have x1 := N2.out.cell 1 _ rfl
    have x2 := N2.out.cell 2 _ rfl
    have f0 := N2.out.free 0
    have f1 := N2.out.free 1
    have f2 := N2.out.free 2
    go_wp2_with fail
    refine (spec_isKey x _ hx).mono ?_; rintro e w' ⟨rfl, rfl⟩
    rw [hk]
    go_wp2_with fail
    refine bodyPost_ret (v := .tuple #[.agg #[.int .i64 0, .slice none 0 0, .slice none 0 0], .int .i64 0, .bool false]) (by simp [results, Try.results45, go_sem, x0, x1, x2]) rfl ?_
    exact .inr ⟨(fun h => by have := h.2.1; rw [hk] at this; cases this), rfl, FZ.out _ HB2.out⟩
  | true =>
  by_cases hmv : 0 ≤ mv ∧ mv ≤ 40
  rotate_left
  · have x0 := N2.out.cell 0 _ rfl
    have x1 := N2.out.cell 1 _ rfl
    have x2 := N2.out.cell 2 _ rfl
    have f0 := N2.out.free 0
    have f1 := N2.out.free 1
    have f2 := N2.out.free 2
    go_wp2_with fail
    refine (spec_isKey x _ hx).mono ?_; rintro e w' ⟨rfl, rfl⟩
    rw [hk]
    go_wp2_with fail
    refine (spec_cuMoves mv _).mono ?_; rintro e w' ⟨rfl, rfl⟩
    rw [decide_eq_false hmv]
    go_wp2_with fail
    refine bodyPost_ret (v := .tuple #[.agg #[.int .i64 0, .slice none 0 0, .slice none 0 0], .int .i64 0, .bool false]) (by simp [results, Try.results45, go_sem, x0, x1, x2]) rfl ?_
    exact .inr ⟨(fun h => hmv h.2.2.1), rfl, FZ.out _ HB2.out⟩
  obtain ⟨k, rfl⟩ : ∃ k : Nat, mv = k := ⟨mv.toNat, by omega⟩
  have hk40 : k ≤ 40 := by omega
  have hzs := sizeB_out HOK.out.size
  have hm4 := HOK.out.few
  have hz := HOK.out.size
  have C2 := Lib.hid (HCL.out _ HB2.out)
  have k0 := C2.out.c0
  have k1 := C2.out.c1
  have k2 := C2.out.c2
  go_wp2_with fail
  refine (spec_isKey x _ hx).mono ?_; rintro e w' ⟨rfl, rfl⟩
  rw [hk]
  go_wp2_with fail
  refine (spec_cuMoves k _).mono ?_; rintro e w' ⟨rfl, rfl⟩
  rw [decide_eq_true hmv]
  go_wp2_with fail
  refine (spec_cuFind z A n c S B m d H x _ (by omega) (by omega) C2.out.r1 C2.out.r2).mono ?_; rintro e w3 ⟨hf, hb3⟩
  have N3 := Lib.hid (N2.out.b hb3)
  have HB3 := Lib.hid (HB2.out.trans (hb3.mono HB2.out.size))
  clear hb3 k0 k1 k2 C2
  rcases hf with ⟨i, hi, hxi, rfl⟩ | ⟨hN, rfl⟩
  · have HX := Lib.hid hxi
    clear hxi
    have x0 := N3.out.cell 0 _ rfl
    have x1 := N3.out.cell 1 _ rfl
    have x2 := N3.out.cell 2 _ rfl
    have f0 := N3.out.free 0
    have f1 := N3.out.free 1
    have f2 := N3.out.free 2
    go_wp2_with fail
    refine bodyPost_ret (v := .tuple #[.agg #[.int .i64 0, .slice none 0 0, .slice none 0 0], .int .i64 0, .bool false]) (by simp [results, Try.results45, go_sem, x0, x1, x2]) rfl ?_
    exact .inr ⟨(fun h => h.2.2.2.1 i hi HX.out), rfl, FZ.out _ HB3.out⟩
  have HNO := Lib.hid hN
  have C3 := Lib.hid (HCL.out _ HB3.out)
  have k0 := C3.out.c0
  have k1 := C3.out.c1
  have k2 := C3.out.c2
  have HKA := Lib.hid (kept_allC HOK.out)
  have HKL := Lib.hid (show (keptL S n H m).length = (tabL S n H m).length from keepS_len _)
  clear hN
  go_wp2_with fail
  refine (spec_cuAll z A n c S B m d H _ (by omega) (by omega) C3.out.r1 C3.out.r2).mono ?_; rintro e w4 hl
  rw [HKA.out] at hl
  obtain ⟨A4, c4, rfl, _, _, hb4⟩ := CuK_row hl
  have N4 := Lib.hid (N3.out.b hb4)
  have HB4 := Lib.hid (HB3.out.trans (hb4.mono HB3.out.size))
  clear hb4 hl k0 k1 k2 C3
  by_cases h40 : (keptL S n H m).length = 40
  · have d40 : (((keptL S n H m).length : Int) == (40 : Int)) = true := by simp; omega
    have H40 := Lib.hid h40
    clear h40
    have x0 := N4.out.cell 0 _ rfl
    have x1 := N4.out.cell 1 _ rfl
    have x2 := N4.out.cell 2 _ rfl
    have f0 := N4.out.free 0
    have f1 := N4.out.free 1
    have f2 := N4.out.free 2
    go_wp2_with fail
    refine bodyPost_ret (v := .tuple #[.agg #[.int .i64 0, .slice none 0 0, .slice none 0 0], .int .i64 0, .bool false]) (by simp [results, Try.results45, go_sem, x0, x1, x2]) rfl ?_
    exact .inr ⟨(fun h => h.2.2.2.2 (by rw [← HKL.out]; exact H40.out)), rfl, FZ.out _ HB4.out⟩
  have d40 : (((keptL S n H m).length : Int) == (40 : Int)) = false := by simp; omega
  have HGOOD := Lib.hid (show InsOk z S n H m x k from ⟨HOK.out, hk, hmv, HNO.out, by rw [← HKL.out]; exact h40⟩)
  have C4 := Lib.hid (HCL.out _ HB4.out)
  have k0 := C4.out.c0
  have k1 := C4.out.c1
  have k2 := C4.out.c2
  clear h40
  go_wp2_with fail
  refine (spec_own z A n c S B m d H w4 (by omega) (by omega) C4.out.r1 C4.out.r2).mono ?_; rintro e w5 ⟨A5, c5, B5, d5, rfl, ht⟩
  have hle5 : m ≤ d5 := by
    obtain ⟨_, _, hv5, hle5, _⟩ := owned_slice ht.o2
    injection hv5 with _ _ hd5
    omega
  obtain ⟨g, rfl, ho5⟩ : ∃ g, A5 = some ⟨g, 0, none⟩ ∧ GOwn w5 9 g n (strV S) := by
    rcases owned_vec ht.o1 with h0 | ⟨g, hA, _, ho⟩
    · omega
    · exact ⟨g, hA, ho⟩
  have HR5 := Lib.hid (owned_vec ht.o2).row
  have HNE := Lib.hid (show ∀ b o, B5 = some ⟨b, o, none⟩ → b ≠ g from fun b o hB e => ht.ne g rfl (by rw [hB, ← e]; rfl))
  have N5 := Lib.hid (N4.out.b ht.below)
  have HB5 := Lib.hid (HB4.out.trans (ht.below.mono HB4.out.size))
  have HGE := Lib.hid (show W0.heap.size ≤ g from by
    have h1 := (ht.o1.lt g rfl).1
    have h2 := HB4.out.size
    omega)
  clear ht k0 k1 k2 C4
  go_wp2_with fail
  refine (spec_cuInsert z n c5 S B5 m d5 H x k g w5 hz hk40 hm4 hle5 HOK.out.cell hk ho5 HR5.out HNE.out).mono ?_; rintro e w6 ⟨hg6, hres⟩
  have hrg : w.heap.size + 1 ≠ g := nbx_ne_own N5.out ho5
  have N6 := Lib.hid (show NBX W0.heap.size (w.heap.size + 1) #[.int .i64 0, .slice none 0 0, .slice none 0 0] 36 w6 from ⟨(hg6.block _ N5.out.lt (fun e => hrg (by injection e))).trans N5.out.blk, N5.out.ge⟩)
  have HB6 := Lib.hid (HB5.out.trans (below_of_grown hg6 HB5.out.size HGE.out))
  have x0 := N6.out.cell 0 _ rfl
  have x1 := N6.out.cell 1 _ rfl
  have x2 := N6.out.cell 2 _ rfl
  have f0 := N6.out.free 0
  have f1 := N6.out.free 1
  have f2 := N6.out.free 2
  clear hg6
  rcases hres with ⟨S', L, T, B', d', hi, rfl, ho6, hr6, _, _⟩ | ⟨hi, rfl⟩
  · have HIR := Lib.hid hi
    have HO6 := Lib.hid ho6
    have HR6 := Lib.hid hr6
    clear hi ho6 hr6
    go_wp2_with fail
    refine bodyPost_ret (v := .tuple #[.agg #[.int .i64 z, .slice (some ⟨g, 0, none⟩) n c5, .slice B' L.length d'], .int .i64 (T : Nat), .bool true]) (by simp [results, Try.results45, go_sem, x0, x1, x2]) rfl ?_
    have hle : w.heap.size ≤ W0.heap.size := by have := HSZ.out; omega
    have hrow : ∀ (W : World) (o : Nat) (v : Value), GRow W B' L.length (strV (rowS L)) → (∀ b o', 0 < L.length → B' = some ⟨b, o', none⟩ → b ≠ w.heap.size + 1) → GRow (W.setCell ⟨w.heap.size + 1, o, none⟩ v) B' L.length (strV (rowS L)) := fun W o v h hb => by
      rcases Nat.eq_zero_or_pos L.length with h0 | h0
      · rw [h0]; exact GRow.zero
      · exact grow_rowG h (grown_setCell (World.grownBy.refl W (some (w.heap.size + 1))) o v) (fun b o' hB => hb b o' h0 hB)
    have hbne : ∀ b o', 0 < L.length → B' = some ⟨b, o', none⟩ → b ≠ w.heap.size + 1 := fun b o' h0 hB e => by
      obtain ⟨b2, off2, hB2, _, hc2⟩ := HR6.out h0
      rw [hB] at hB2; injection hB2 with hB2; injection hB2 with e1 e2
      subst e1 e2
      have h1 := hc2 0 h0
      subst e
      exact nbx_no_str N6.out h1
    have hb9 := ((HB0.out.trans (HB6.out.mono hle)).setCell (p := ⟨w.heap.size + 1, 0, none⟩) (by show _ ≤ w.heap.size + 1; omega) (.int .i64 z)).setCell (p := ⟨w.heap.size + 1, 1, none⟩) (by show _ ≤ w.heap.size + 1; omega) (.slice (some ⟨g, 0, none⟩) n c5)
    have hb10 := hb9.setCell (p := ⟨w.heap.size + 1, 2, none⟩) (by show _ ≤ w.heap.size + 1; omega) (.slice B' L.length d')
    have hgn : g ≠ w.heap.size + 1 := Ne.symm hrg
    exact .inl ⟨k, rfl, HGOOD.out, _, HIR.out, .inl ⟨S', L, T, rfl, _, _, _, _, rfl, (((HO6.out.setAt hgn _).setAt hgn _).setAt hgn _).row, hrow _ _ _ (hrow _ _ _ (hrow _ _ _ HR6.out hbne) hbne) hbne, hb10⟩⟩
  · have HIR := Lib.hid hi
    clear hi
    go_wp2_with fail
    refine bodyPost_ret (v := .tuple #[.agg #[.int .i64 0, .slice none 0 0, .slice none 0 0], .int .i64 0, .bool false]) (by simp [results, Try.results45, go_sem, x0, x1, x2]) rfl ?_
    exact .inl ⟨k, rfl, HGOOD.out, none, HIR.out, .inr ⟨rfl, rfl, FZ.out _ HB6.out⟩⟩
end
end Go.Proofs.Ytfjimjbndkhkcaa
