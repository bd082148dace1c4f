/- Several texts in one: TrQ, TrR, TrT, TrU, TrV, TrW, ExactBuildTrieWalk. -/
import Derived.Test.YthaipemgndahfaaTrP
import Derived.Test.YthaipemgndahfaaTrS
import Derived.Test.YthaipemgndahfaaByts
import Derived.Deep.DeepCutAuto
import Derived.Test.YthaipemgndahfaaTrO
import Derived.Test.YthaipemgndahfaaBlD
import Derived.Deep.RegionHeld3
import Derived.Test.YthaipemgndahfaaKeyRow
import Derived.Test.YthaipemgndahfaaObjStT
import Derived.Test.YthaipemgndahfaaObjTr
import Derived.Test.YthaipemgndahfaaToS

/- Tries: the program's list of nodes is that of the nodes; no program. -/
namespace Go.Proofs.Ythaipemgndahfaa
open Go.RowKit

abbrev paths (R : List NdR) : List Byt := R.map NdR.path
abbrev ndG (R : List NdR) (j : Nat) : NdR := R.getD j ndD
theorem ndG_mem {R : List NdR} {j : Nat} (h : j < R.length) : ndG R j ∈ R := by
  unfold ndG; rw [List.getD_eq_getElem?_getD, List.getElem?_eq_getElem h]; exact List.getElem_mem h
theorem ndG_left {R C : List NdR} {j : Nat} (h : j < R.length) : ndG (R ++ C) j = ndG R j := by
  unfold ndG; rw [List.getD_eq_getElem?_getD, List.getD_eq_getElem?_getD, List.getElem?_append_left h]
theorem ndG_right {R C : List NdR} {j : Nat} (h : R.length ≤ j) : ndG (R ++ C) j = ndG C (j - R.length) := by
  unfold ndG; rw [List.getD_eq_getElem?_getD, List.getD_eq_getElem?_getD, List.getElem?_append_right h]
theorem ndA_paths {R : List NdR} {j : Nat} (h : j < R.length) : ndA (paths R) j = (ndG R j).path := by
  unfold ndA ndG paths
  rw [List.getD_eq_getElem?_getD, List.getD_eq_getElem?_getD, List.getElem?_map, List.getElem?_eq_getElem h]; rfl
theorem slx_of_dropLast {x y : Byt} (hx : x ≠ []) (hy : y ≠ []) (h : slx x.dropLast y.dropLast) : slx x y := by
  have h1 := List.length_pos_iff.2 hx
  have h2 := List.length_pos_iff.2 hy
  rcases h with h | ⟨h3, h4⟩
  · simp at h; exact .inl (by omega)
  · simp at h3
    refine .inr ⟨by omega, ?_⟩
    have := lt_pre (c := [x.getLast hx]) (d := [y.getLast hy]) (by simp; omega) h4
    rwa [List.dropLast_concat_getLast, List.dropLast_concat_getLast] at this
theorem dropLast_child {p c : Byt} (h1 : c.length = p.length + 1) (h2 : p <+: c) : c.dropLast = p := by
  rw [List.dropLast_eq_take, h1]
  exact (List.prefix_iff_eq_take.1 h2).symm
/-- Behind a rounds. -/
structure RunJ (L : List Byt) (a : Nat) (R : List NdR) : Prop where
  srt : (paths R).Pairwise slx
  hd : [] ∈ paths R
  blk : ∀ r, r ∈ R → Blk3 L r.path r.less r.beg
  mem : ∀ q, q ∈ paths R ↔ q = [] ∨ (q ≠ [] ∧ (∃ s, s ∈ L ∧ q <+: s) ∧ q.dropLast ∈ (paths R).take a)
  up : ∀ j, 1 ≤ j → j < R.length → (ndG R j).up < a ∧ (ndG R (ndG R j).up).path = (ndG R j).path.dropLast
theorem RunJ.start (L : List Byt) : RunJ L 0 (ndRun L 0) := by
  refine ⟨by simp [ndRun], by simp [ndRun], fun r hr => ?_, fun q => ?_, fun j h1 h2 => ?_⟩
  · simp [ndRun] at hr; subst hr
    exact ⟨by show 0 + L.length ≤ _; omega, fun t ht => by simp; exact ht⟩
  · simp [ndRun]
  · simp [ndRun] at h2; omega
theorem idx_ne {N : List Byt} (h : N.Pairwise slx) {a : Nat} (ha : a < N.length) : ndA N a ∉ N.take a := fun k => by
  obtain ⟨i, hi, e⟩ := List.getElem_of_mem k
  rw [List.length_take] at hi
  have h2 : ndA N i = ndA N a := by
    rw [← e]
    unfold ndA
    rw [List.getD_eq_getElem?_getD, List.getElem?_eq_getElem (by omega), List.getElem_take]; rfl
  have := nd_inj h (by omega) ha h2
  omega
theorem RunJ.round {L : List Byt} {a : Nat} {R : List NdR} (hL : Inc L) (ha : a < R.length) (h : RunJ L a R) : ∀ i, i ≤ (ndG R a).beg → ∃ C, ndKeys L (ndG R a).less (ndG R a).path.length a R i = R ++ C ∧ KidJ L (ndG R a).path (ndG R a).less (ndG R a).beg a i R C
  | 0, _ => ⟨[], by simp [ndKeys], by simp, by simp, by simp, by simp, by simp⟩
  | i + 1, hi => by
    obtain ⟨C, hC, hJ⟩ := h.round hL ha i (by omega)
    have hB := h.blk _ (ndG_mem ha)
    have hpl : a < (paths R).length := by simpa using ha
    obtain ⟨C', h1, h2⟩ := hJ.step hL hB (by omega) (fun e => by
      by_cases hk : (L.getD ((ndG R a).less + i) []).length = (ndG R a).path.length
      · exact .inr hk
      · refine .inl (fun e2 => ?_)
        have hlt : (ndG R a).less + i < L.length := by have := hB.1; omega
        have hpre := (hB.2 _ hlt).1 (by omega)
        have hlen := hpre.length_le
        have hin : lastP R ∈ paths R := by
          unfold lastP
          have hne : R ≠ [] := fun e3 => by subst e3; simp at ha
          rcases List.eq_nil_or_concat R with e3 | ⟨D, c, e3⟩
          · exact absurd e3 hne
          · rw [List.concat_eq_append] at e3; subst e3; simp
        have hl2 : ((L.getD ((ndG R a).less + i) []).take ((ndG R a).path.length + 1)).length = (ndG R a).path.length + 1 := by rw [List.length_take]; omega
        rcases (h.mem _).1 hin with e3 | ⟨_, _, e3⟩
        · rw [e2] at e3; rw [e3] at hl2; simp at hl2
        · rw [e2, dropLast_child hl2 (by rw [List.prefix_take_iff]; exact ⟨hpre, by omega⟩), ← ndA_paths ha] at e3
          exact idx_ne h.srt hpl e3)
    exact ⟨C', by rw [ndKeys, hC]; exact h1, h2⟩
theorem RunJ.step {L : List Byt} {a : Nat} {R : List NdR} (hL : Inc L) (ha : a < R.length) (h : RunJ L a R) : RunJ L (a + 1) (ndRound L R a) ∧ R.length ≤ (ndRound L R a).length := by
  obtain ⟨C, hC, hJ⟩ := h.round hL ha _ (Nat.le_refl _)
  have hB := h.blk _ (ndG_mem ha)
  have hpl : a < (paths R).length := by simpa using ha
  have hpa := ndA_paths ha
  have htk : (paths (R ++ C)).take (a + 1) = (paths R).take a ++ [(ndG R a).path] := by
    unfold paths
    rw [List.map_append, List.take_append_of_le_length (by simp; omega), List.take_add_one, ← hpa]
    unfold ndA paths
    rw [List.getD_eq_getElem?_getD, List.getElem?_eq_getElem (by simpa using ha)]; rfl
  have hcd : ∀ c, c ∈ C → c.path ≠ [] ∧ c.path.dropLast = (ndG R a).path := fun c hc => by
    have h1 := hJ.one c hc
    exact ⟨fun e => by have := h1.1; rw [e] at this; simp at this, dropLast_child h1.1 h1.2.1⟩
  unfold ndRound
  rw [show ndKeys L (R.getD a ndD).less (R.getD a ndD).path.length a R (R.getD a ndD).beg = R ++ C from hC]
  refine ⟨⟨?_, ?_, fun r hr => ?_, fun q => ?_, fun j h1 h2 => ?_⟩, by simp⟩
  · unfold paths
    rw [List.map_append]
    refine List.pairwise_append.2 ⟨h.srt, ?_, fun x hx y hy => ?_⟩
    · refine List.Pairwise.imp_of_mem ?_ hJ.srt
      intro x y hx hy hxy
      obtain ⟨c1, hc1, rfl⟩ := List.mem_map.1 hx
      obtain ⟨c2, hc2, rfl⟩ := List.mem_map.1 hy
      exact .inr ⟨by rw [(hJ.one c1 hc1).1, (hJ.one c2 hc2).1], hxy⟩
    · obtain ⟨c, hc, rfl⟩ := List.mem_map.1 hy
      obtain ⟨k1, k2⟩ := hcd c hc
      rcases (h.mem x).1 hx with e | ⟨e1, _, e3⟩
      · subst e; exact .inl (by have := List.length_pos_iff.2 k1; simpa using this)
      · refine slx_of_dropLast e1 k1 ?_
        rw [k2, ← hpa]
        obtain ⟨i, hi, e⟩ := List.getElem_of_mem e3
        rw [List.length_take] at hi
        have h5 := nd_lt h.srt (show i < a by omega) hpl
        rw [← e, List.getElem_take]
        unfold ndA at h5
        rwa [List.getD_eq_getElem?_getD, List.getElem?_eq_getElem (by omega)] at h5
  · unfold paths; rw [List.map_append]; exact List.mem_append_left _ h.hd
  · rcases List.mem_append.1 hr with hr | hr
    · exact h.blk r hr
    · obtain ⟨b1, b2, b3⟩ := hJ.blk r hr
      refine ⟨by have := hB.1; omega, fun t ht => ?_⟩
      by_cases e : t < (ndG R a).less + (ndG R a).beg
      · exact b3 t e
      · refine ⟨fun ⟨_, k⟩ => by omega, fun k => ?_⟩
        have := (hB.2 t ht).2 ((hJ.one r hr).2.1.trans k)
        omega
  · rw [htk]
    have hmm : q ∈ paths (R ++ C) ↔ q ∈ paths R ∨ q ∈ paths C := by unfold paths; rw [List.map_append, List.mem_append]
    rw [hmm, List.mem_append, List.mem_singleton]
    constructor
    · rintro (hq | hq)
      · rcases (h.mem q).1 hq with e | ⟨e1, e2, e3⟩
        · exact .inl e
        · exact .inr ⟨e1, e2, .inl e3⟩
      · obtain ⟨c, hc, rfl⟩ := List.mem_map.1 hq
        obtain ⟨k1, k2⟩ := hcd c hc
        obtain ⟨t, ht, k3⟩ := hJ.mem c hc
        exact .inr ⟨k1, ⟨_, getD_mem (by have := hB.1; omega), k3⟩, .inr k2⟩
    · rintro (e | ⟨e1, ⟨s, hs, e2⟩, e3 | e3⟩)
      · subst e; exact .inl h.hd
      · exact .inl ((h.mem q).2 (.inr ⟨e1, ⟨s, hs, e2⟩, e3⟩))
      · right
        have hq0 := List.length_pos_iff.2 e1
        have hql : q.length = (ndG R a).path.length + 1 := by rw [← e3]; simp; omega
        obtain ⟨t, ht, e4⟩ := List.getElem_of_mem hs
        have hst : L.getD t [] = s := by rw [List.getD_eq_getElem?_getD, List.getElem?_eq_getElem ht]; exact e4
        have hps : (ndG R a).path <+: s := by rw [← e3]; exact (List.dropLast_prefix q).trans e2
        have hin := (hB.2 t ht).2 (by rw [hst]; exact hps)
        have h6 := hJ.all (t - (ndG R a).less) (by omega) (by rw [show (ndG R a).less + (t - (ndG R a).less) = t by omega, hst]; have := e2.length_le; omega)
        rw [show (ndG R a).less + (t - (ndG R a).less) = t by omega, hst, ← ((pre_take hql).1 e2).2] at h6
        exact h6
  · by_cases e : j < R.length
    · obtain ⟨u1, u2⟩ := h.up j h1 e
      rw [ndG_left e, ndG_left (show (ndG R j).up < R.length by omega)]
      exact ⟨by omega, u2⟩
    · have hj2 : j - R.length < C.length := by simp at h2; omega
      have hc := ndG_mem hj2
      rw [ndG_right (by omega)]
      obtain ⟨o1, o2, o3, _⟩ := hJ.one _ hc
      rw [o3, ndG_left ha]
      exact ⟨by omega, (hcd _ hc).2.symm⟩
theorem RunJ.nodes {L : List Byt} {R : List NdR} (h : RunJ L R.length R) : IsNd L (paths R) := by
  refine ⟨h.srt, fun p => ?_⟩
  have ht : (paths R).take R.length = paths R := List.take_of_length_le (by simp)
  constructor
  · intro hp
    rcases (h.mem p).1 hp with e | ⟨_, e, _⟩
    · exact .inl e
    · exact .inr e
  · have key : ∀ n, ∀ p : Byt, p.length ≤ n → (p = [] ∨ ∃ s, s ∈ L ∧ p <+: s) → p ∈ paths R := by
      intro n
      induction n with
      | zero => intro p hp _; obtain rfl := List.length_eq_zero_iff.1 (show p.length = 0 by omega); exact h.hd
      | succ n ih =>
        intro p hp hs
        by_cases e : p = []
        · subst e; exact h.hd
        · rcases hs with e2 | ⟨s, hs, hps⟩
          · exact absurd e2 e
          · refine (h.mem p).2 (.inr ⟨e, ⟨s, hs, hps⟩, ?_⟩)
            rw [ht]
            exact ih p.dropLast (by simp; omega) (.inr ⟨s, hs, (List.dropLast_prefix p).trans hps⟩)
    exact key p.length p (Nat.le_refl _)
theorem slx_len {N M : List Byt} (hN : N.Pairwise slx) (hM : M.Pairwise slx) (h : ∀ x, x ∈ N → x ∈ M) : N.length ≤ M.length := by
  have key : ∀ i, i < N.length → i ≤ ndI M (ndA N i) := by
    intro i
    induction i with
    | zero => intro _; exact Nat.zero_le _
    | succ i ih =>
      intro hi
      have h1 := ih (by omega)
      have h2 := nd_lt hN (show i < i + 1 by omega) hi
      have m1 := h _ (nd_mem (show i < N.length by omega))
      have m2 := h _ (nd_mem hi)
      have h3 := (nd_lt' hM (ndI_lt m1) (ndI_lt m2)).1 (by rw [ndI_at m1, ndI_at m2]; exact h2)
      omega
  rcases Nat.eq_zero_or_pos N.length with e | e
  · omega
  · have h1 := key (N.length - 1) (by omega)
    have h2 := ndI_lt (h _ (nd_mem (show N.length - 1 < N.length by omega)))
    omega
theorem RunJ.len {L : List Byt} {a : Nat} {R : List NdR} (h : RunJ L a R) (hL : Inc L) (hk : ∀ s, s ∈ L → s.length ≤ 12) : R.length ≤ (ndL L).length := by
  have hN := ndL_is hL hk
  have := slx_len h.srt hN.1 (fun x hx => (hN.2 x).2 (by
    rcases (h.mem x).1 hx with e | ⟨_, e, _⟩
    · exact .inl e
    · exact .inr e))
  simpa using this
/-- What the program's list of nodes is in the end. -/
structure NdOk (L : List Byt) (R : List NdR) : Prop where
  nodes : paths R = ndL L
  blk : ∀ r, r ∈ R → Blk3 L r.path r.less r.beg
  up : ∀ j, 1 ≤ j → j < R.length → (ndG R j).up = par (ndL L) j
theorem RunJ.ok {L : List Byt} {R : List NdR} (h : RunJ L R.length R) (hL : Inc L) (hk : ∀ s, s ∈ L → s.length ≤ 12) : NdOk L R := by
  have hI := h.nodes
  have hN := ndL_is hL hk
  have e := hI.same hN
  refine ⟨e, h.blk, fun j h1 h2 => ?_⟩
  obtain ⟨u1, u2⟩ := h.up j h1 h2
  rw [← e]
  have h2' : j < (paths R).length := by simpa using h2
  refine nd_inj hI.1 (by simpa using u1) (hI.par_in h2') ?_
  rw [hI.par_at h2', ndA_paths u1, ndA_paths h2, u2]
end Go.Proofs.Ythaipemgndahfaa

/- The program's nodes of keys. -/
namespace Go.Proofs.Ythaipemgndahfaa
open Go.RowKit

/-- Nodes as a flat row of cells. -/
def ndF (R : List NdR) (j : Nat) : Value :=
  if j % 4 = 0 then .int .i64 ((ndG R (j / 4)).less : Int) else if j % 4 = 1 then .int .i64 ((ndG R (j / 4)).beg : Int) else if j % 4 = 2 then .string ⟨(ndG R (j / 4)).path.toArray⟩ else .int .i64 ((ndG R (j / 4)).up : Int)
theorem ndF_0 (R : List NdR) (i : Nat) : ndF R (i * 4) = .int .i64 ((ndG R i).less : Int) := by unfold ndF; rw [if_pos (by omega), show i * 4 / 4 = i by omega]
theorem ndF_1 (R : List NdR) (i : Nat) : ndF R (i * 4 + 1) = .int .i64 ((ndG R i).beg : Int) := by unfold ndF; rw [if_neg (by omega), if_pos (by omega), show (i * 4 + 1) / 4 = i by omega]
theorem ndF_2 (R : List NdR) (i : Nat) : ndF R (i * 4 + 2) = .string ⟨(ndG R i).path.toArray⟩ := by unfold ndF; rw [if_neg (by omega), if_neg (by omega), if_pos (by omega), show (i * 4 + 2) / 4 = i by omega]
theorem ndF_3 (R : List NdR) (i : Nat) : ndF R (i * 4 + 3) = .int .i64 ((ndG R i).up : Int) := by unfold ndF; rw [if_neg (by omega), if_neg (by omega), if_neg (by omega), show (i * 4 + 3) / 4 = i by omega]
theorem ndF_old {R : List NdR} {r : NdR} {j : Nat} (h : j < R.length * 4) : ndF (R ++ [r]) j = ndF R j := by
  unfold ndF
  rw [ndG_left (by omega)]
theorem ndG_new (R : List NdR) (r : NdR) : ndG (R ++ [r]) R.length = r := by rw [ndG_right (Nat.le_refl _), Nat.sub_self]; rfl
theorem ndF_push (R : List NdR) (r : NdR) : vals (ndF (R ++ [r])) ((R.length + 1) * 4) = vals (ndF R) (R.length * 4) ++ [.int .i64 r.less, .int .i64 r.beg, .string ⟨r.path.toArray⟩, .int .i64 r.up] := by
  rw [show (R.length + 1) * 4 = R.length * 4 + 1 + 1 + 1 + 1 by omega, vals_snoc, vals_snoc, vals_snoc, vals_snoc,
    vals_congr (F := ndF (R ++ [r])) (G := ndF R) (fun j hj => ndF_old hj), ndF_0, show R.length * 4 + 1 + 1 = R.length * 4 + 2 by omega, show R.length * 4 + 2 + 1 = R.length * 4 + 3 by omega, ndF_1, ndF_2, ndF_3, ndG_new]
  simp
theorem infoN : (Try.prog.info? 89).map (fun i => (i.zero, i.size, i.bytes)) = some (some (.agg #[.int .i64 0, .int .i64 0, .string ByteArray.empty, .int .i64 0]), 4, 40) := by kernel_rfl
/-- A row of nodes of the call's own. -/
def NdOwn (w : World) (B g n c : Nat) (R : List NdR) : Prop := w.ownsRow B 89 4 (.slice (some ⟨g, 0, none⟩) n c) n (vals (ndF R) (n * 4))
section
variable {w w' : World} {B g n c : Nat} {R : List NdR}
theorem NdOwn.blk (h : NdOwn w B g n c R) : B ≤ g ∧ n ≤ c ∧ ∃ cur : Array Value, w.heap[g]? = some (.cells cur 89 (0, 0)) ∧ n * 4 ≤ cur.size ∧ ∀ j, j < n * 4 → cur[j]? = some (ndF R j) := by
  rcases h.2 with ⟨h0, _⟩ | ⟨g', cap, cur, hv, hB, hh, h1, h2, h3, h4⟩
  · cases h0
  · cases hv
    refine ⟨hB, h1, cur, hh, by rw [h3]; exact Nat.mul_le_mul_right 4 h1, fun j hj => ?_⟩
    have h5 := vals_at (ndF R) (n * 4) j hj
    rw [← h4, List.getElem?_take, if_pos hj, Array.getElem?_toList] at h5
    exact h5
theorem NdOwn.lt (h : NdOwn w B g n c R) : g < w.heap.size := by
  obtain ⟨_, _, cur, hh, _⟩ := h.blk
  exact (Array.getElem?_eq_some_iff.1 hh).1
theorem NdOwn.cell (h : NdOwn w B g n c R) {j : Nat} (hj : j < n * 4) : w.cell? ⟨g, j, none⟩ = some (ndF R j) := by
  obtain ⟨_, _, cur, hh, _, hc⟩ := h.blk
  simp [World.cell?, hh, hc j hj]
theorem NdOwn.free (h : NdOwn w B g n c R) (j : Nat) : w.frozen? ⟨g, j, none⟩ = false := by
  obtain ⟨_, _, cur, hh, _⟩ := h.blk
  simp [World.frozen?, hh]
theorem NdOwn.row (h : NdOwn w B g n c R) : GRow w (some ⟨g, 0, none⟩) (n * 4) (ndF R) := fun _ => ⟨g, 0, rfl, h.lt, fun k hk => by rw [Nat.zero_add]; exact h.cell hk⟩
theorem NdOwn.b (h : NdOwn w B g n c R) (hb : Below w.heap.size w w') : NdOwn w' B g n c R := by
  refine ⟨h.1, ?_⟩
  rcases h.2 with h0 | ⟨g', cap, cur, hv, hB, hh, h3⟩
  · exact .inl h0
  · exact .inr ⟨g', cap, cur, hv, hB, (hb.block g' (Array.getElem?_eq_some_iff.1 hh).1).trans hh, h3⟩
theorem NdOwn.put {R' : List NdR} (h : NdOwn w B g n c R) {j : Nat} (v : Value) (hj : j < n * 4) (hR : ∀ i, i < n * 4 → ndF R' i = if i = j then v else ndF R i) : NdOwn (w.setCell ⟨g, j, none⟩ v) B g n c R' := by
  refine ⟨by simp [vals], ?_⟩
  rcases h.2 with ⟨h0, _⟩ | ⟨g', cap, cur, hv, hB, hh, h1, h2, h3, h4⟩
  · cases h0
  · cases hv
    refine .inr ⟨g, c, cur.setIfInBounds j v, rfl, hB, by simp [World.setCell, Array.getElem?_modify, hh], h1, h2, by simpa using h3, ?_⟩
    apply List.ext_getElem?
    intro i
    by_cases hi : i < n * 4
    · have h5 := vals_at (ndF R) (n * 4) i hi
      rw [← h4, List.getElem?_take, if_pos hi, Array.getElem?_toList] at h5
      rw [vals_at (ndF R') (n * 4) i hi, List.getElem?_take, if_pos hi, Array.getElem?_toList, Array.getElem?_setIfInBounds, hR i hi]
      by_cases e : i = j
      · subst e
        have hic : i < cur.size := by rw [h3]; exact Nat.lt_of_lt_of_le hi (Nat.mul_le_mul_right 4 h1)
        simp [hic]
      · rw [if_neg (fun h => e h.symm), if_neg e, h5]
    · rw [List.getElem?_eq_none (by rw [List.length_take]; omega), List.getElem?_eq_none (by rw [vals_len]; omega)]
end
/-- One node put behind. -/
theorem wpList_push4n {ops : Array Oper} {rest : List Oper} {o : Oper} {a : Act} {Q : Exit → Act → World → Prop} (hgd : o.guard = none) (s x : Operand)
    (ho : o.op = .call { callee := .builtin .append, args := #[s, x], argTypes := #[75, 75] }) (B g c : Nat) (R : List NdR) (r : NdR) (u0 u1 u2 u3 : Value) (wr : World) (h0 : u0 = .int .i64 (r.less : Int)) (h1 : u1 = .int .i64 (r.beg : Int)) (h2 : u2 = .string ⟨r.path.toArray⟩) (h3 : u3 = .int .i64 (r.up : Int)) (hs : a.eval s = .slice (some ⟨g, 0, none⟩) R.length c) (hown : NdOwn wr B g R.length c R)
    (hx : a.eval x = .slice (some ⟨wr.heap.size, 0, none⟩) 1 1) (hk : R.length < 4096) (hB : B ≤ wr.heap.size)
    (h : ∀ g' c' w3, NdOwn w3 B g' (R ++ [r]).length c' (R ++ [r]) → Below B wr w3 → (∀ i, i < wr.heap.size → i ≠ g → w3.heap[i]? = wr.heap[i]?) → (g' = g ∨ wr.heap.size ≤ g') → wpList Try.prog ops Q rest (a.put o.dst (.slice (some ⟨g', 0, none⟩) (R.length + 1) c')) w3) :
    wpList Try.prog ops Q (o :: rest) a (wr.alloc (.cells #[u0, u1, u2, u3] 89)) := by
  subst h0 h1 h2 h3
  obtain ⟨i0, hi, hzz⟩ := Option.map_eq_some_iff.1 infoN
  simp only [Prod.mk.injEq] at hzz
  obtain ⟨hz0, hz1, hz2⟩ := hzz
  have hal := hown.b ((Below.refl _ _).alloc (Nat.le_refl _) (.cells #[.int .i64 (r.less : Int), .int .i64 (r.beg : Int), .string ⟨r.path.toArray⟩, .int .i64 (r.up : Int)] 89))
  refine wpList_append_own_at _ hgd s x _ ho B 89 i0 (.agg #[.int .i64 0, .int .i64 0, .string ByteArray.empty, .int .i64 0]) 4 40 Try.underlying75 hi hz0 hz1 hz2 rfl (by decide) _ _ _ hs hal ⟨wr.heap.size, 0, none⟩ 1 1 [.int .i64 (r.less : Int), .int .i64 (r.beg : Int), .string ⟨r.path.toArray⟩, .int .i64 (r.up : Int)] hx rfl ?_ ?_ ?_ ?_ ?_ ?_
  · intro j v hj
    match j, hj with
    | 0, hj => simp at hj; subst hj; simp [Addr.add]
    | 1, hj => simp at hj; subst hj; simp [Addr.add]
    | 2, hj => simp at hj; subst hj; simp [Addr.add]
    | 3, hj => simp at hj; subst hj; simp [Addr.add]
  · intro v hv
    simp at hv
    rcases hv with rfl | rfl | rfl | rfl <;> rfl
  · unfold maxLen; omega
  · omega
  · simp; omega
  · intro v' w3 hown' hgrow _ hat
    have hsl : ∃ g' c', v' = .slice (some ⟨g', 0, none⟩) (R.length + 1) c' := by
      rcases hown'.2 with ⟨_, h0⟩ | ⟨g', cap, cur, rfl, _⟩
      · omega
      · exact ⟨_, _, rfl⟩
    obtain ⟨g', c', rfl⟩ := hsl
    refine h g' c' w3 (by unfold NdOwn; rw [List.length_append, List.length_singleton, ndF_push]; exact hown') (((Below.refl B wr).alloc hB _).trans ((Below.refl _ _).grown hgrow (by simp; omega) (fun i hi => (World.ownsRow.lt hal i hi).1))) (fun i hi hne => ?_) ?_
    · have h1 := hgrow.block i (by simp; omega) (fun e => by simp [Value.ownBlock] at e; exact hne e)
      exact h1.trans (Go.Deep.blk_alloc_lt _ _ _ hi)
    · rcases hat with e | e
      · left; simpa [Value.ownBlock] using e
      · right; simp [Value.ownBlock] at e; omega
end Go.Proofs.Ythaipemgndahfaa

/- The program's nodes of keys: the walk. -/
namespace Go.Proofs.Ythaipemgndahfaa
open Go.RowKit

theorem run_midS (A : Option Addr) (n k lo hi : Nat) (h1 : lo ≤ hi) (h2 : hi ≤ n) (h3 : n ≤ k) (W : World) :
    (Instr.slice 22 (.slice A n k) (some (.int .i64 lo)) (some (.int .i64 hi)) none).run Try.prog W = .ok (.slice (subS A lo k) (hi - lo) (k - lo)) W := by
  unfold Instr.slice
  simp [go_sem, Instr.sliceBounds, Instr.sliceBound, run_underlying Try.underlying22, subS, h1]
  try omega
theorem ndS_len (pl d a : Nat) (R : List NdR) (i : Nat) (key : Byt) : R.length ≤ (ndS pl d a R i key).length ∧ (ndS pl d a R i key).length ≤ R.length + 1 := by
  have hb : (bumpR R).length = R.length := by
    rcases List.eq_nil_or_concat R with e | ⟨D, r, e⟩
    · subst e; rfl
    · rw [List.concat_eq_append] at e; subst e; rw [bumpR_concat]; simp
  unfold ndS
  split
  · omega
  · split
    · omega
    · simp
theorem ndKeys_len (L : List Byt) (pl d a : Nat) (R : List NdR) : ∀ i, R.length ≤ (ndKeys L pl d a R i).length ∧ (ndKeys L pl d a R i).length ≤ R.length + i
  | 0 => by simp [ndKeys]
  | i + 1 => by
    have h1 := ndKeys_len L pl d a R i
    have h2 := ndS_len pl d a (ndKeys L pl d a R i) i (L.getD (pl + i) [])
    rw [ndKeys]; omega
theorem RunJ.beg_le {L : List Byt} {a : Nat} {R : List NdR} (hL : Inc L) (ha : a < R.length) (h : RunJ L a R) {i : Nat} (hi : i ≤ (ndG R a).beg) : ∀ x, x ∈ ndKeys L (ndG R a).less (ndG R a).path.length a R i → x.beg ≤ L.length := by
  obtain ⟨C, hC, hJ⟩ := h.round hL ha i hi
  intro x hx
  rw [hC] at hx
  have hB := (h.blk _ (ndG_mem ha)).1
  rcases List.mem_append.1 hx with hx | hx
  · have := (h.blk x hx).1; omega
  · have := (hJ.blk x hx).2.1; omega
theorem lastP_at {R : List NdR} (h : 1 ≤ R.length) : lastP R = (ndG R (R.length - 1)).path := by
  rcases List.eq_nil_or_concat R with e | ⟨D, r, e⟩
  · subst e; simp at h
  · rw [List.concat_eq_append] at e; subst e
    rw [lastP_concat, List.length_append, List.length_singleton, Nat.add_sub_cancel, ndG_new]
theorem bump_len {R : List NdR} (h : 1 ≤ R.length) : (bumpR R).length = R.length := by
  rcases List.eq_nil_or_concat R with e | ⟨D, r, e⟩
  · subst e; rfl
  · rw [List.concat_eq_append] at e; subst e; rw [bumpR_concat]; simp
theorem ndF_bump {R : List NdR} (h : 1 ≤ R.length) : ∀ i, i < R.length * 4 → ndF (bumpR R) i = if i = (R.length - 1) * 4 + 1 then .int .i64 (((ndG R (R.length - 1)).beg : Int) + 1) else ndF R i := by
  rcases List.eq_nil_or_concat R with e | ⟨D, r, e⟩
  · subst e; simp at h
  · rw [List.concat_eq_append] at e; subst e
    intro i hi
    rw [bumpR_concat, List.length_append, List.length_singleton, Nat.add_sub_cancel, ndG_new]
    rw [List.length_append, List.length_singleton] at hi
    by_cases e : i < D.length * 4
    · rw [ndF_old e, ndF_old e, if_neg (by omega)]
    · have hq : i = D.length * 4 ∨ i = D.length * 4 + 1 ∨ i = D.length * 4 + 2 ∨ i = D.length * 4 + 3 := by omega
      rcases hq with rfl | rfl | rfl | rfl
      · rw [if_neg (by omega), ndF_0, ndF_0, ndG_new, ndG_new]
      · rw [if_pos rfl, ndF_1, ndG_new]; simp
      · rw [if_neg (by omega), ndF_2, ndF_2, ndG_new, ndG_new]
      · rw [if_neg (by omega), ndF_3, ndF_3, ndG_new, ndG_new]
set_option maxRecDepth 100000 in
set_option maxHeartbeats 1000000 in
theorem impl_among {l b : Nat} {A : Option Addr} {k c : Nat} {w : World} (h1 : l + b ≤ k) (h2 : k ≤ c) (h3 : k ≤ 1048576) :
    Calls Try.prog 79 #[.agg #[.int .i64 l, .int .i64 b], .slice A k c] w fun e w' => e = .returned (.slice (subS A l c) b (c - l)) ∧ Below w.heap.size w w' := by
  have HB := Lib.hid ((Below.refl w.heap.size w).alloc (Nat.le_refl _) (.cells #[.int .i64 l, .int .i64 b] 87))
  have hsl : ∀ W, (Instr.slice 22 (.slice A k c) (some (.int .i64 l)) (some (.int .i64 ((l : Int) + (b : Int)))) none).run Try.prog W = .ok (.slice (subS A l c) b (c - l)) W := fun W => by
    have h := run_midS A k c l (l + b) (by omega) h1 h2 W
    rw [show (((l + b : Nat) : Int)) = (l : Int) + (b : Int) by push_cast; rfl, show l + b - l = b by omega] at h
    exact h
  go_enter Try.func79, Try.ntmps79
  go_wp2_with fail
  go_ret
  exact ⟨rfl, HB.out⟩
/-- What nodesFor answers. -/
def NdIs (L : List Byt) (w : World) (e : Ending) (w' : World) : Prop :=
  ∃ g c R, e = .returned (.slice (some ⟨g, 0, none⟩) R.length c) ∧ NdOwn w' w.heap.size g R.length c R ∧ NdOk L R ∧ Below w.heap.size w w'
section
variable {A : Option Addr} {k c : Nat} {S : Nat → ByteArray} {w : World}
set_option maxRecDepth 100000 in
set_option maxHeartbeats 8000000 in
theorem impl_nodesForN {L : List Byt} (hLL : lsOf S k = L) (hkb : keysB S k = true) (hkc : k ≤ c) (hr : GRow w A k (strV S)) :
    Calls Try.prog 61 #[.slice A k c] w (NdIs L w) := by
  obtain ⟨hk, hkey, hinc⟩ := keysB_inc.1 hkb
  have hl12 : ∀ s, s ∈ lsOf S k → s.length ≤ 12 := fun s hs => by
    obtain ⟨i, hi, rfl⟩ := lsOf_mem.1 hs
    have := (isKeyB_size (hkey _ hs)).2; simpa using this
  have hlen := ndUp_len (lsOf S k) 12
  rw [lsOf_len] at hlen
  have h481 : (ndL (lsOf S k)).length ≤ 481 := by show (ndUp _ 12).length ≤ _; omega
  have HLA := Lib.hid (show ∀ i, i < k → (S i).data.toList = L.getD i [] from fun i hi => by rw [← hLL, List.getD_eq_getElem?_getD, lsOf_at hi]; rfl)
  have hLk : L.length = k := by rw [← hLL, lsOf_len]
  rw [hLL] at hinc hl12 h481
  have HI := Lib.hid hinc
  have HL12 := Lib.hid hl12
  have HR := Lib.hid hr
  have HO := Lib.hid (show NdOwn (w.alloc (.cells #[.int .i64 0, .int .i64 k, .string ⟨#[]⟩, .int .i64 0] 89)) w.heap.size w.heap.size 1 1 (ndRun L 0) from
    ⟨by simp [vals], .inr ⟨w.heap.size, 1, #[.int .i64 0, .int .i64 k, .string ⟨#[]⟩, .int .i64 0], rfl, Nat.le_refl _, heap_alloc_new w _, Nat.le_refl _, by simp [maxLen], by simp, by
      show _ = vals (ndF (ndRun L 0)) (1 * 4)
      rw [show (1 * 4 : Nat) = 0 + 1 + 1 + 1 + 1 by rfl, vals_snoc, vals_snoc, vals_snoc, vals_snoc]
      have e0 := ndF_0 (ndRun L 0) 0
      have e1 := ndF_1 (ndRun L 0) 0
      have e2 := ndF_2 (ndRun L 0) 0
      have e3 := ndF_3 (ndRun L 0) 0
      simp only [Nat.zero_mul, Nat.zero_add] at e0 e1 e2 e3 ⊢
      rw [e0, e1, e2, e3, ← hLk]
      simp [vals, ndRun, ndG]⟩⟩)
  have HB := Lib.hid ((Below.refl w.heap.size w).alloc (Nat.le_refl _) (.cells #[.int .i64 0, .int .i64 k, .string ⟨#[]⟩, .int .i64 0] 89))
  clear hr hinc hkey hkb hlen hl12 hLL
  go_enter Try.func61, Try.ntmps61
  go_wp2_with fail
  generalize w.alloc (.cells #[.int .i64 0, .int .i64 k, .string ⟨#[]⟩, .int .i64 0] 89) = w1 at *
  go_loopw [3, 4] (fun o i wr => ∃ (a g c1 : Nat) (R : List NdR), a ≤ R.length ∧ i = .int .i64 a ∧ o = .slice (some ⟨g, 0, none⟩) R.length c1 ∧ Hid (RunJ L a R) ∧ R.length ≤ 481 ∧ Hid (NdOwn wr w.heap.size g R.length c1 R) ∧ Hid (Below w.heap.size w wr)) (fun _ i _ => 482 - (intOf i).toNat)
  case atStart => exact ⟨0, w.heap.size, 1, ndRun L 0, by simp [ndRun], rfl, rfl, Lib.hid (RunJ.start L), by simp [ndRun], HO, HB⟩
  case round =>
    obtain ⟨a, g, c1, R, ha, rfl, rfl, HJ, hR, HO, HB⟩ := hrel
    by_cases hlt : a < R.length
    · have hpm := ndG_mem hlt
      obtain ⟨hbl, hbk⟩ := HJ.out.blk _ hpm
      obtain ⟨r, hr⟩ : ∃ r, r = ndG R a := ⟨_, rfl⟩
      rw [← hr] at hbl hbk
      have HRr := Lib.hid hr
      obtain ⟨P, hP⟩ : ∃ P : ByteArray, P = ⟨r.path.toArray⟩ := ⟨_, rfl⟩
      have HP := Lib.hid (show P.data.toList = r.path by rw [hP])
      have x0 : wr.cell? ⟨g, a * 4, none⟩ = some (.int .i64 r.less) := by rw [HO.out.cell (by omega), ndF_0, ← hr]
      have x1 : wr.cell? ⟨g, a * 4 + 1, none⟩ = some (.int .i64 r.beg) := by rw [HO.out.cell (by omega), ndF_1, ← hr]
      have x2 : wr.cell? ⟨g, a * 4 + 2, none⟩ = some (.string P) := by rw [HO.out.cell (by omega), ndF_2, ← hr, hP]
      have x3 : wr.cell? ⟨g, a * 4 + 3, none⟩ = some (.int .i64 r.up) := by rw [HO.out.cell (by omega), ndF_3, ← hr]
      have N2 := Lib.hid (nbx0 wr #[.int .i64 r.less, .int .i64 r.beg, .string P, .int .i64 r.up] 89)
      have hal := (Below.refl wr.heap.size wr).alloc (Nat.le_refl _) (.cells #[.int .i64 r.less, .int .i64 r.beg, .string P, .int .i64 r.up] 89)
      have O2 := Lib.hid (HO.out.b hal)
      have B2 := Lib.hid (HB.out.trans (hal.mono HB.out.size))
      have hgq : g < wr.heap.size := HO.out.lt
      have hszw := HB.out.size
      have hps : P.size ≤ 12 := by
        have h1 := HP.out
        rw [← ba_len, h1]
        rw [hr, ← ndA_paths hlt]
        have hin : ndA (paths R) a ∈ paths R := nd_mem (by simpa using hlt)
        rcases (HJ.out.mem _).1 hin with e | ⟨_, ⟨s, hs, e⟩, _⟩
        · rw [e]; simp
        · exact Nat.le_trans e.length_le (HL12.out s hs)
      rw [hLk] at hbl
      clear hP hal hr
      go_wp2_with fail
      have HSUB := Lib.hid (show GRow w (subS A r.less c) r.beg (strV fun i => S (r.less + i)) from (tail_rowS (k := c) HR.out (by omega) hkc).mono (by omega))
      obtain ⟨q0, hq0⟩ : ∃ q0, q0 = wr.heap.size := ⟨_, rfl⟩
      rw [← hq0] at N2 hgq hszw ⊢
      refine (impl_among hbl hkc (by omega)).mono ?_; rintro e w3 ⟨rfl, hb3⟩
      have O3 := Lib.hid (O2.out.b hb3)
      have N3 := Lib.hid (N2.out.b hb3)
      have B3 := Lib.hid (B2.out.trans (hb3.mono B2.out.size))
      have HBK := Lib.hid hbk
      have HRND := Lib.hid (show ndKeys L r.less r.path.length a R r.beg = ndRound L R a by unfold ndRound; rw [HRr.out])
      clear x0 x1 x2 x3 hb3 O2 N2 B2 HO HB hq0 hbk
      go_wp2_with fail
      go_loopw [3, 34] (fun o i wi => ∃ (j g' c' : Nat) (R' : List NdR), j ≤ r.beg ∧ i = .int .i64 j ∧ o = .slice (some ⟨g', 0, none⟩) R'.length c' ∧ Hid (R' = ndKeys L r.less r.path.length a R j) ∧ 1 ≤ R'.length ∧ R'.length ≤ R.length + j ∧ Hid (NdOwn wi w.heap.size g' R'.length c' R') ∧ Hid (NBX q0 q0 #[.int .i64 r.less, .int .i64 r.beg, .string P, .int .i64 r.up] 89 wi) ∧ g' ≠ q0 ∧ Hid (Below w.heap.size w wi)) (fun _ i _ => r.beg - (intOf i).toNat)
      case atStart => exact ⟨0, g, c1, R, Nat.zero_le _, rfl, rfl, Lib.hid rfl, by omega, by omega, O3, N3, by omega, B3⟩
      case round =>
        obtain ⟨j, g', c', R', hj, rfl, rfl, HK, hR1, hR2, HO, HN, hgq', HB⟩ := hrel
        by_cases hlj : j < r.beg
        · obtain ⟨kb, ko, hA, hkb, hkk⟩ := (HSUB.out.b HB.out) (by omega)
          rw [hA]
          obtain ⟨key, hkey⟩ : ∃ key, key = S (r.less + j) := ⟨_, rfl⟩
          have hx : wr.cell? ⟨kb, ko + j, none⟩ = some (.string key) := by rw [hkey]; exact hkk j hlj
          have HKB := Lib.hid (show key.data.toList = L.getD (r.less + j) [] by rw [hkey]; exact HLA.out _ (by omega))
          have HNX := Lib.hid (show ndKeys L r.less r.path.length a R (j + 1) = ndS r.less r.path.length a R' j key.data.toList by rw [ndKeys, ← HK.out, HKB.out])
          have hpk : r.path <+: key.data.toList := by rw [HKB.out]; exact (HBK.out _ (by omega)).1 (by omega)
          have hkl := hpk.length_le
          rw [← HP.out, ba_len, ba_len] at hkl
          have hks : key.size ≤ 12 := by
            rw [← ba_len, HKB.out]
            exact HL12.out _ (getD_mem (by omega))
          have HPL := Lib.hid (show r.path.length = P.size by rw [← HP.out, ba_len])
          have hszw2 := HB.out.size
          clear hkk hA hkey hpk
          by_cases hd : key.size = P.size
          · have d1 : ((key.size : Int) == (P.size : Int)) = true := by rw [beq_iff_eq]; omega
            have HS2 := Lib.hid (show R' = ndKeys L r.less r.path.length a R (j + 1) by rw [HNX.out]; unfold ndS; rw [if_pos (by rw [ba_len, HPL.out]; exact hd)])
            clear hd
            go_wp2_with fail
            go_roundw
            case rel => exact ⟨j + 1, g', c', R', by omega, by go_num, rfl, HS2, hR1, by omega, HO, HN, hgq', HB⟩
            case measure => simp [intOf]; omega
          · have d1 : ((key.size : Int) == (P.size : Int)) = false := by rw [beq_eq_false_iff_ne]; omega
            have e5 : IntKind.i64.wrap ((R'.length : Int) - 1) = (R'.length : Int) - 1 := IntWalk.i64_in _ (by omega)
            have e6 : IntKind.i64.wrap ((P.size : Int) + 1) = (P.size : Int) + 1 := IntWalk.i64_in _ (by omega)
            have q1 : (R'.length : Int) - 1 < (R'.length : Int) := by omega
            have q2 : 0 ≤ (R'.length : Int) - 1 := by omega
            have q3 : (P.size : Int) + 1 ≤ (key.size : Int) := by omega
            obtain ⟨Q, hQ⟩ : ∃ Q : ByteArray, Q = ⟨(ndG R' (R'.length - 1)).path.toArray⟩ := ⟨_, rfl⟩
            have HQ := Lib.hid (show Q.data.toList = lastP R' by rw [hQ, lastP_at hR1])
            obtain ⟨bg, hbg⟩ : ∃ bg, bg = (ndG R' (R'.length - 1)).beg := ⟨_, rfl⟩
            have y1 : wr.cell? ⟨g', (R'.length - 1) * 4 + 1, none⟩ = some (.int .i64 bg) := by rw [HO.out.cell (by omega), ndF_1, ← hbg]
            have y2 : wr.cell? ⟨g', (R'.length - 1) * 4 + 2, none⟩ = some (.string Q) := by rw [HO.out.cell (by omega), ndF_2, ← hQ]
            have t1 := HO.out.free ((R'.length - 1) * 4 + 1)
            have HBGG := Lib.hid hbg
            have hbk40 : bg ≤ 40 := by
              have h1 := (HJ.out.beg_le HI.out hlt (i := j) (by rw [← HRr.out]; omega)) (ndG R' (R'.length - 1)) (by rw [← HRr.out, ← HK.out]; exact ndG_mem (by omega))
              rw [hbg]; omega
            have e7 : IntKind.i64.wrap ((bg : Int) + 1) = (bg : Int) + 1 := IntWalk.i64_in _ (by omega)
            clear hQ hbg
            by_cases he : key.data.toList.take (P.size + 1) = lastP R'
            · have d3 : ((key.extract 0 (P.size + 1)).toList == Q.toList) = true := by rw [ba_eq, ext_take, HQ.out]; simpa using he
              have HS2 := Lib.hid (show bumpR R' = ndKeys L r.less r.path.length a R (j + 1) by rw [HNX.out]; unfold ndS; rw [if_neg (by rw [ba_len, HPL.out]; exact hd), if_pos (by rw [HPL.out]; exact he)])
              have HBL := Lib.hid (bump_len hR1)
              have HP4 := Lib.hid (show NdOwn (wr.setCell ⟨g', (R'.length - 1) * 4 + 1, none⟩ (.int .i64 ((bg : Int) + 1))) w.heap.size g' (bumpR R').length c' (bumpR R') from by
                rw [HBL.out]
                exact HO.out.put (R' := bumpR R') _ (by omega) (fun i hi => by rw [ndF_bump hR1 i hi, HBGG.out]))
              have HN4 := Lib.hid (show NBX q0 q0 #[.int .i64 r.less, .int .i64 r.beg, .string P, .int .i64 r.up] 89 (wr.setCell ⟨g', (R'.length - 1) * 4 + 1, none⟩ (.int .i64 ((bg : Int) + 1))) from ⟨(Go.Deep.blk_setCell_other _ _ _ _ (show q0 ≠ g' by omega)).trans HN.out.blk, HN.out.ge⟩)
              have HB4 := Lib.hid (below_setAt (b := g') (o := (R'.length - 1) * 4 + 1) HB.out HO.out.blk.1 (.int .i64 ((bg : Int) + 1)))
              clear he
              go_wp2_with fail
              go_roundw
              case rel => exact ⟨j + 1, g', c', bumpR R', by omega, by go_num, by rw [HBL.out], HS2, by rw [HBL.out]; exact hR1, by rw [HBL.out]; omega, HP4, HN4, hgq', HB4⟩
              case measure => simp [intOf]; omega
            · have d3 : ((key.extract 0 (P.size + 1)).toList == Q.toList) = false := by rw [ba_eq, ext_take, HQ.out]; simpa using he
              have HS2 := Lib.hid (show R' ++ [NdR.mk (r.less + j) 1 (key.data.toList.take (P.size + 1)) a] = ndKeys L r.less r.path.length a R (j + 1) by rw [HNX.out]; unfold ndS; rw [if_neg (by rw [ba_len, HPL.out]; exact hd), if_neg (by rw [HPL.out]; exact he), HPL.out])
              have e8 : IntKind.i64.wrap ((r.less : Int) + (j : Int)) = ((r.less + j : Nat) : Int) := by rw [show (r.less : Int) + (j : Int) = ((r.less + j : Nat) : Int) by push_cast; rfl]; exact IntWalk.i64_in _ (by omega)
              have HXE := Lib.hid (show (⟨(key.data.toList.take (P.size + 1)).toArray⟩ : ByteArray) = key.extract 0 (P.size + 1) from ba_ext (by rw [ext_take]))
              have n0 := HN.out.cell 0 _ rfl
              clear he
              go_upto_region 15 with fail
              go_wp2_with (at_builtin; refine wpList_push4n rfl _ _ rfl w.heap.size g' c' R' ⟨r.less + j, 1, key.data.toList.take (P.size + 1), a⟩ _ _ _ _ wr (by push_cast; rfl) rfl (by rw [HXE.out]) rfl rfl HO.out rfl (by omega) hszw2 ?_)
              intro g5 c5 w5 ho5 hb5 hk5 hg5
              have HO5 := Lib.hid (show NdOwn w5 w.heap.size g5 (R' ++ [NdR.mk (r.less + j) 1 (key.data.toList.take (P.size + 1)) a]).length c5 (R' ++ [NdR.mk (r.less + j) 1 (key.data.toList.take (P.size + 1)) a]) from (by rw [List.length_append]; exact ho5))
              have HB5 := Lib.hid (HB.out.trans hb5)
              have hqlt := HN.out.lt
              have HN5 := Lib.hid (show NBX q0 q0 #[.int .i64 r.less, .int .i64 r.beg, .string P, .int .i64 r.up] 89 w5 from ⟨(hk5 q0 hqlt (fun e => hgq' e.symm)).trans HN.out.blk, HN.out.ge⟩)
              have hne5 : g5 ≠ q0 := by rcases hg5 with e | e <;> omega
              clear ho5 hb5 hk5 hg5 n0
              go_wp2_with fail
              go_roundw
              case rel => exact ⟨j + 1, g5, c5, R' ++ [NdR.mk (r.less + j) 1 (key.data.toList.take (P.size + 1)) a], by omega, by go_num, by rw [List.length_append]; rfl, HS2, by simp, by simp; omega, HO5, HN5, hne5, HB5⟩
              case measure => simp [intOf]; omega
        · obtain rfl : j = r.beg := by omega
          have hstep := HJ.out.step HI.out hlt
          rw [← HRND.out, ← HK.out] at hstep
          have HJ2 := Lib.hid hstep.1
          have hlen2 := hstep.1.len HI.out HL12.out
          have hlen3 := hstep.2
          clear hstep
          go_wp2_with fail
          go_roundw
          case rel => exact ⟨a + 1, g', c', R', by omega, by go_num, rfl, HJ2, by omega, HO, HB⟩
          case measure => simp [intOf]; omega
    · obtain rfl : a = R.length := by omega
      have HOK := Lib.hid (HJ.out.ok HI.out HL12.out)
      go_wp2_with fail
      go_ret
      exact ⟨g, c1, R, rfl, HO.out, HOK.out, HB.out⟩
end
end Go.Proofs.Ythaipemgndahfaa

/- The trie of keys, made: the program's. -/
namespace Go.Proofs.Ythaipemgndahfaa
open Go.RowKit

def shU (N : List Byt) (i p : Nat) : Bool := (List.range i).any fun t => decide (shP N (t + 1) = p)
theorem shU_succ (N : List Byt) (i : Nat) : (fun p => shU N i p || decide (p = shP N (i + 1))) = shU N (i + 1) := by
  funext p
  unfold shU
  rw [List.range_succ, List.any_append]
  simp [eq_comm]
theorem shU_full {L N : List Byt} (h : IsNd L N) : shU N (N.length - 1) = shF N := by
  funext p
  show shB N p = (decide (p < 2 * N.length - 1) && shB N p)
  cases hb : shB N p with
  | false => simp
  | true =>
    obtain ⟨j, h1, h2, h3⟩ := shB_iff.1 hb
    have := h.shP_top h1 h2
    rw [Bool.and_true]; symm; rw [decide_eq_true_eq]; omega
def enU (L N : List Byt) (i p : Nat) : Bool := decide (1 ≤ p ∧ p ≤ i) && enB L N p
theorem enU_yes {L N : List Byt} {i : Nat} (h : enB L N (i + 1) = true) : (fun p => enU L N i p || decide (p = i + 1)) = enU L N (i + 1) := by
  funext p
  unfold enU
  by_cases e : p = i + 1
  · subst e; simp [h]
  · rw [show decide (p = i + 1) = false by simpa using e, Bool.or_false]
    congr 1
    exact decide_eq_decide.2 (by omega)
theorem enU_no {L N : List Byt} {i : Nat} (h : enB L N (i + 1) = false) : enU L N i = enU L N (i + 1) := by
  funext p
  unfold enU
  by_cases e : p = i + 1
  · subst e; simp [h]
  · congr 1
    exact decide_eq_decide.2 (by omega)
theorem enU_full {L N : List Byt} (h : IsNd L N) (hne : ([] : Byt) ∉ L) : enU L N (N.length - 1) = enF L N := by
  funext p
  have hp := h.pos
  unfold enU enF
  rcases Nat.eq_zero_or_pos p with e | e
  · subst e
    have : enB L N 0 = false := by unfold enB; rw [h.zero, decide_eq_false_iff_not]; exact hne
    rw [this]; simp
  · congr 1
    exact decide_eq_decide.2 (by omega)
theorem blk_first {L : List Byt} {p : Byt} {l b : Nat} (hL : Inc L) (h : Blk3 L p l b) (hb : 1 ≤ b) : L.getD l [] = p ↔ p ∈ L := by
  have hl : l < L.length := by have := h.1; omega
  have hpre := (h.2 l hl).1 (by omega)
  constructor
  · intro e; rw [← e]; exact getD_mem hl
  · intro hp
    obtain ⟨t, ht, e⟩ := List.getElem_of_mem hp
    have hst : L.getD t [] = p := by rw [List.getD_eq_getElem?_getD, List.getElem?_eq_getElem ht]; exact e
    have hin := (h.2 t ht).2 (by rw [hst]; exact List.prefix_refl p)
    have h1 := getD_le hL (show l ≤ t by omega) ht
    rw [hst] at h1
    have h2 := hpre.length_le
    have h3 := take_mono p.length (Nat.le_refl _) h2 (x := p) (y := L.getD l [])
    refine bs_anti h1 (bs_le.1 (fun k => ?_))
    obtain ⟨q, hq⟩ := hpre
    rw [← hq] at k
    cases q with
    | nil => rw [List.append_nil] at k; exact bs_irr _ k
    | cons a q =>
      have := bs_le.2 (show p ≤ p ++ a :: q from bs_le.1 (fun k2 => by
        have h5 : ∀ (x : Byt) (y : Byt), ¬ x ++ y < x := by
          intro x
          induction x with
          | nil => intro y; simp
          | cons c x ih => intro y; rw [List.cons_append, List.cons_lt_cons_iff]; rintro (h | ⟨_, h⟩); exact absurd h (UInt8.lt_irrefl c); exact ih y h
        exact h5 p _ k2))
      exact this k
theorem blk_pos {L : List Byt} {p : Byt} {l b : Nat} (h : Blk3 L p l b) (hp : ∃ s, s ∈ L ∧ p <+: s) : 1 ≤ b := by
  obtain ⟨s, hs, hps⟩ := hp
  obtain ⟨t, ht, e⟩ := List.getElem_of_mem hs
  have := (h.2 t ht).2 (by rw [List.getD_eq_getElem?_getD, List.getElem?_eq_getElem ht]; show p <+: L[t]; rw [e]; exact hps)
  omega
/-- A trie under way: boxes of the answer and of two vectors, their words, the labels. -/
structure TW (w : World) (g1 m1 q2 g2 m2 z1 n : Nat) (F1 F2 : Nat → Bool) (k3 : Nat) (A3 : Option Addr) (c3 : Nat) (F3 : Nat → Int) (wr : World) : Prop where
  below : Below w.heap.size w wr
  res : NBX w.heap.size w.heap.size #[.int .i64 0, .slice none 0 0, .int .i64 0, .slice none 0 0, .string ⟨#[]⟩] 53 wr
  b1 : NBX w.heap.size (w.heap.size + 1) #[.int .i64 z1, .slice (some ⟨g1, 0, none⟩) m1 m1] 51 wr
  b2 : NBX w.heap.size q2 #[.int .i64 n, .slice (some ⟨g2, 0, none⟩) m2 m2] 51 wr
  o1 : OB wr g1 m1 F1
  o2 : OB wr g2 m2 F2
  o3 : wr.ownsRow (w.heap.size + 1) 5 1 (.slice A3 k3 c3) k3 (vals (byV F3) k3)
  ne : g1 ≠ g2 ∧ w.heap.size < g1 ∧ w.heap.size < g2
section
variable {w wr wj : World} {g1 m1 q2 g2 m2 z1 n : Nat} {F1 F2 G : Nat → Bool} {k3 : Nat} {A3 : Option Addr} {c3 : Nat} {F3 : Nat → Int}
theorem nbx_ne_ob {base q g m : Nat} {cs : Array Value} {t : TypeId} {F : Nat → Bool} {w : World} (h : NBX base q cs t w) (ho : OB w g m F) (hne : t ≠ 3) : q ≠ g := fun e => by
  subst e
  obtain ⟨W, _, _, c, hc, _⟩ := ho
  have := h.blk
  rw [hc] at this
  injection this with h1; injection h1 with _ h2 _
  exact hne h2.symm
theorem ob_block {g m : Nat} {F : Nat → Bool} {w w' : World} (h : OB w g m F) (e : w'.heap[g]? = w.heap[g]?) : OB w' g m F := by
  obtain ⟨W, h1, h2, h3⟩ := h
  exact ⟨W, h1, h2, GOwn.of_block (F := intV fun i => (W i : Int)) h3 e⟩
theorem ob_lt {g m : Nat} {F : Nat → Bool} {w : World} (h : OB w g m F) : g < w.heap.size := by
  obtain ⟨W, _, _, h3⟩ := h; exact h3.lt
theorem row_ne_ob {B k : Nat} {v : Value} {xs : List Value} {g m : Nat} {F : Nat → Bool} {w : World} (h : w.ownsRow B 5 1 v k xs) (ho : OB w g m F) : v.ownBlock ≠ some g := fun e => by
  obtain ⟨W, _, _, c, hc, _⟩ := ho
  rcases h.2 with ⟨rfl, _⟩ | ⟨g', cap, cur, rfl, _, hh, _⟩
  · simp [Value.ownBlock] at e
  · simp [Value.ownBlock] at e
    subst e
    rw [hc] at hh
    injection hh with h1; injection h1 with _ h2 _
    exact absurd h2 (by decide)
theorem TW.b (h : TW w g1 m1 q2 g2 m2 z1 n F1 F2 k3 A3 c3 F3 wr) (hb : Below wr.heap.size wr wj) : TW w g1 m1 q2 g2 m2 z1 n F1 F2 k3 A3 c3 F3 wj :=
  ⟨h.below.trans (hb.mono h.below.size), h.res.b hb, h.b1.b hb, h.b2.b hb, ob_block h.o1 (hb.block _ (ob_lt h.o1)), ob_block h.o2 (hb.block _ (ob_lt h.o2)), owned_b h.o3 hb, h.ne⟩
theorem TW.set1 (h : TW w g1 m1 q2 g2 m2 z1 n F1 F2 k3 A3 c3 F3 wr) (ho : OB wj g1 m1 G) (hg : wr.grownBy wj (some g1)) : TW w g1 m1 q2 g2 m2 z1 n G F2 k3 A3 c3 F3 wj := by
  obtain ⟨n1, n2, n3⟩ := h.ne
  have e0 := nbx_ne_ob h.res h.o1 (by decide)
  have e1 := nbx_ne_ob h.b1 h.o1 (by decide)
  have e2 := nbx_ne_ob h.b2 h.o1 (by decide)
  exact ⟨h.below.grown hg h.below.size (fun k hk => by cases hk; omega), ⟨(hg.block _ h.res.lt (fun e => by cases e; exact e0 rfl)).trans h.res.blk, h.res.ge⟩, ⟨(hg.block _ h.b1.lt (fun e => by injection e with e; exact e1 e)).trans h.b1.blk, h.b1.ge⟩, ⟨(hg.block _ h.b2.lt (fun e => by injection e with e; exact e2 e)).trans h.b2.blk, h.b2.ge⟩, ho,
    ob_block h.o2 (hg.block _ (ob_lt h.o2) (fun e => by injection e with e; exact n1 e.symm)), h.o3.kept hg (.inr (row_ne_ob h.o3 h.o1)), h.ne⟩
theorem TW.set2 (h : TW w g1 m1 q2 g2 m2 z1 n F1 F2 k3 A3 c3 F3 wr) (ho : OB wj g2 m2 G) (hg : wr.grownBy wj (some g2)) : TW w g1 m1 q2 g2 m2 z1 n F1 G k3 A3 c3 F3 wj := by
  obtain ⟨n1, n2, n3⟩ := h.ne
  have e0 := nbx_ne_ob h.res h.o2 (by decide)
  have e1 := nbx_ne_ob h.b1 h.o2 (by decide)
  have e2 := nbx_ne_ob h.b2 h.o2 (by decide)
  exact ⟨h.below.grown hg h.below.size (fun k hk => by cases hk; omega), ⟨(hg.block _ h.res.lt (fun e => by cases e; exact e0 rfl)).trans h.res.blk, h.res.ge⟩, ⟨(hg.block _ h.b1.lt (fun e => by injection e with e; exact e1 e)).trans h.b1.blk, h.b1.ge⟩, ⟨(hg.block _ h.b2.lt (fun e => by injection e with e; exact e2 e)).trans h.b2.blk, h.b2.ge⟩,
    ob_block h.o1 (hg.block _ (ob_lt h.o1) (fun e => by injection e with e; exact n1 e)), ho, h.o3.kept hg (.inr (row_ne_ob h.o3 h.o2)), h.ne⟩
theorem nbx_own_ne {base q B k : Nat} {cs : Array Value} {t : TypeId} {v : Value} {xs : List Value} {w : World} (h : NBX base q cs t w) (ho : w.ownsRow B 5 1 v k xs) (hne : t ≠ 5) : v.ownBlock ≠ some q := fun e => by
  rcases ho.2 with ⟨rfl, _⟩ | ⟨g', cap, cur, rfl, _, hh, _⟩
  · simp [Value.ownBlock] at e
  · simp [Value.ownBlock] at e
    subst e
    have := h.blk
    rw [hh] at this
    injection this with h1; injection h1 with _ h2 _
    exact hne h2.symm
theorem TW.push (h : TW w g1 m1 q2 g2 m2 z1 n F1 F2 k3 A3 c3 F3 wr) {u : Value} {A' : Option Addr} {c' : Nat} (ho : wj.ownsRow (w.heap.size + 1) 5 1 (.slice A' (k3 + 1) c') (k3 + 1) (vals (byV F3) (k3 + 1))) (hb : Below (w.heap.size + 1) wr wj) (hg : (wr.alloc (.cells #[u] 5)).grownBy wj (Value.slice A3 k3 c3).ownBlock) :
    TW w g1 m1 q2 g2 m2 z1 n F1 F2 (k3 + 1) A' c' F3 wj := by
  have e0 := nbx_own_ne h.res h.o3 (by decide)
  have e1 := nbx_own_ne h.b1 h.o3 (by decide)
  have e2 := nbx_own_ne h.b2 h.o3 (by decide)
  have e3 := row_ne_ob h.o3 h.o1
  have e4 := row_ne_ob h.o3 h.o2
  have bl : ∀ i, i < wr.heap.size → (Value.slice A3 k3 c3).ownBlock ≠ some i → wj.heap[i]? = wr.heap[i]? := fun i hi hne =>
    (hg.block i (by simp; omega) (fun e => hne e.symm)).trans (Go.Deep.blk_alloc_lt _ _ _ hi)
  exact ⟨h.below.trans (hb.mono (by omega)), ⟨(bl _ h.res.lt e0).trans h.res.blk, h.res.ge⟩, ⟨(bl _ h.b1.lt e1).trans h.b1.blk, h.b1.ge⟩, ⟨(bl _ h.b2.lt e2).trans h.b2.blk, h.b2.ge⟩, ob_block h.o1 (bl _ (ob_lt h.o1) e3), ob_block h.o2 (bl _ (ob_lt h.o2) e4), ho, h.ne⟩
end
end Go.Proofs.Ythaipemgndahfaa

/- The trie of keys, made: the program's, walked. -/
namespace Go.Proofs.Ythaipemgndahfaa
open Go.RowKit

theorem run_tailN (g n k : Nat) (hn : 1 ≤ n) (W : World) :
    (Instr.slice 75 (.slice (some ⟨g, 0, none⟩) n k) (some (.int .i64 1)) none none).run Try.prog W = .ok (.slice (if k = 1 then some ⟨g, 0, none⟩ else some ⟨g, 4, none⟩) (n - 1) (k - 1)) W := by
  unfold Instr.slice
  simp [go_sem, Instr.sliceBounds, Instr.sliceBound, run_underlying Try.underlying75, Addr.add]
  intro h; omega
theorem run_make_capB (N : Nat) (hN : N ≤ 4096) (W : World) : (Instr.makeSlice 80 (.int .i64 0) (.int .i64 N)).run Try.prog W = .ok (.slice (some ⟨W.heap.size, 0, none⟩) 0 N) (W.alloc (.cells (madeCells #[.int .u8 0] N) 5)) := by
  obtain ⟨i0, hi, hz0, hz1, hz2⟩ := info_parts infoBy
  have h := run_makeSlice (P := Try.prog) (w := W) 80 5 i0 (.int .u8 0) Try.underlying80 hi hz0 .i64 .i64 0 (N : Int)
  rw [hz1, hz2, show (Value.int .u8 0).cells = #[.int .u8 0] from rfl] at h
  simpa using h (by omega) (by omega) (by omega) (by omega) (by omega)
section
variable {A : Option Addr} {k c : Nat} {S : Nat → ByteArray} {w : World}
set_option maxRecDepth 100000 in
set_option maxHeartbeats 8000000 in
theorem impl_trieOfN {L N : List Byt} {R : List NdR} {g nc n : Nat} (hRn : R.length = n) (hLL : lsOf S k = L) (hNL : ndL L = N) (hok : NdOk L R) (hkb : keysB S k = true) (hkc : k ≤ c) (hnc : n ≤ nc) (hr : GRow w A k (strV S)) (hn : GRow w (some ⟨g, 0, none⟩) (n * 4) (ndF R)) :
    Calls Try.prog 60 #[.slice A k c,   .slice (some ⟨g, 0, none⟩) n nc] w (TrVal L N w) := by
  obtain ⟨hk, hkey, hinc⟩ := keysB_inc.1 hkb
  have hl12 : ∀ s, s ∈ lsOf S k → s.length ≤ 12 := fun s hs => by
    obtain ⟨i, hi, rfl⟩ := lsOf_mem.1 hs
    have := (isKeyB_size (hkey _ hs)).2; simpa using this
  have hlen := ndUp_len (lsOf S k) 12
  rw [lsOf_len] at hlen
  have h481 : (ndL (lsOf S k)).length ≤ 481 := by show (ndUp _ 12).length ≤ _; omega
  have HLA := Lib.hid (show ∀ i, i < k → (S i).data.toList = L.getD i [] from fun i hi => by rw [← hLL, List.getD_eq_getElem?_getD, lsOf_at hi]; rfl)
  have hLk : L.length = k := by rw [← hLL, lsOf_len]
  have hne : ([] : Byt) ∉ L := fun h => key_ne (hkey _ (by rw [hLL]; exact h)) rfl
  rw [hLL] at hinc hl12 h481
  have hN := ndL_is hinc hl12
  have hRN : paths R = N := hok.nodes.trans hNL
  rw [hNL] at hN h481
  have hNn : N.length = n := by rw [← hRN, ← hRn]; simp
  have hpos := hN.pos
  have HRn := Lib.hid hRn
  have HNn := Lib.hid hNn
  have HI := Lib.hid hinc
  have HL12 := Lib.hid hl12
  have HNE := Lib.hid hne
  have HN := Lib.hid hN
  have HOK := Lib.hid hok
  have HRN := Lib.hid hRN
  have HR := Lib.hid hr
  have HG := Lib.hid hn
  have HU := Lib.hid (show ∀ j, 1 ≤ j → j < n → (ndG R j).up = par N j from fun j h1 h2 => by rw [← hNL]; exact hok.up j h1 (by omega))
  rw [hNn] at h481 hpos
  obtain ⟨z1, hz1⟩ : ∃ z1, z1 = 2 * n - 1 := ⟨_, rfl⟩
  have HZ := Lib.hid hz1
  have hz1b : z1 ≤ 4096 := by omega
  have hz1p : 1 ≤ z1 := by omega
  have hzi : 2 * (n : Int) - 1 = (z1 : Int) := by omega
  obtain ⟨m1, hm1⟩ : ∃ m1, m1 = (z1 + 15) / 16 := ⟨_, rfl⟩
  obtain ⟨m2, hm2⟩ : ∃ m2, m2 = (n + 15) / 16 := ⟨_, rfl⟩
  have hm1p : 0 < m1 := by omega
  have hm2p : 0 < m2 := by omega
  have hm1b : 16 * m1 ≤ z1 + 15 := by omega
  have hm1c : z1 ≤ 16 * m1 := by omega
  have hm2b : 16 * m2 ≤ n + 15 := by omega
  have hm2c : n ≤ 16 * m2 := by omega
  have HM1 := Lib.hid hm1
  have HM2 := Lib.hid hm2
  have hal := Lib.hid ((Below.refl w.heap.size w).alloc (Nat.le_refl _) (.cells #[.int .i64 0, .slice none 0 0, .int .i64 0, .slice none 0 0, .string ⟨#[]⟩] 53))
  have N0 := Lib.hid (nbx0 w #[.int .i64 0, .slice none 0 0, .int .i64 0, .slice none 0 0, .string ⟨#[]⟩] 53)
  have hmk := fun W => run_make_capB n (by omega) W
  clear hinc hkey hkb hlen hl12 hLL hne hN hok hRN hr hn hNL hz1 hm1 hm2 hRn hNn
  go_enter Try.func60, Try.ntmps60
  go_wp2_with fail
  refine (growWords_some z1 m1 none 0 0 (fun _ => 0) _ hz1b HM1.out hm1p (Nat.zero_le _) (fun h => absurd h (Nat.lt_irrefl 0))).mono ?_; rintro e w2 ⟨g1, rfl, hg1, ho1, hb1⟩
  have N1 := Lib.hid ((nbx0 (w.alloc (.cells #[.int .i64 0, .slice none 0 0, .int .i64 0, .slice none 0 0, .string ⟨#[]⟩] 53)) #[.int .i64 z1, .slice none 0 0] 51).b hb1)
  have N0a := Lib.hid ((N0.out.b ((Below.refl _ _).alloc (Nat.le_refl _) (.cells #[.int .i64 z1, .slice none 0 0] 51))).b hb1)
  have HB2 := Lib.hid ((hal.out.alloc (by simp) (.cells #[.int .i64 z1, .slice none 0 0] 51)).trans (hb1.mono (by simp; omega)))
  have O1 := Lib.hid (ob_zero (ho1.congr (fun i _ => by rw [if_neg (Nat.not_lt_zero i)])))
  simp only [World.size_alloc] at N1 hg1
  have d0 := N1.out.cell 0 _ rfl
  have d1 := N1.out.cell 1 _ rfl
  have t1 := N1.out.free 1
  have hs2 := N1.out.lt
  clear ho1 hb1 hal N0
  go_wp2_with fail
  have N1b := Lib.hid (N1.out.set 1 (.slice (some ⟨g1, 0, none⟩) m1 m1))
  have N0b := Lib.hid (show NBX w.heap.size w.heap.size #[.int .i64 0, .slice none 0 0, .int .i64 0, .slice none 0 0, .string ⟨#[]⟩] 53 (w2.setCell ⟨w.heap.size + 1, 1, none⟩ (.slice (some ⟨g1, 0, none⟩) m1 m1)) from ⟨(Go.Deep.blk_setCell_other _ _ _ _ (show w.heap.size ≠ w.heap.size + 1 by omega)).trans N0a.out.blk, N0a.out.ge⟩)
  have O1b := Lib.hid (ob_block (F := fun _ => false) O1.out (Go.Deep.blk_setCell_other w2 ⟨w.heap.size + 1, 1, none⟩ (.slice (some ⟨g1, 0, none⟩) m1 m1) g1 (show g1 ≠ w.heap.size + 1 by omega)))
  have HB2b := Lib.hid (below_setAt (b := w.heap.size + 1) (o := 1) HB2.out (by omega) (.slice (some ⟨g1, 0, none⟩) m1 m1))
  have hg1l := ob_lt O1b.out
  rw [World.size_setCell] at hg1l
  refine (growWords_some n m2 none 0 0 (fun _ => 0) _ (by omega) HM2.out hm2p (Nat.zero_le _) (fun h => absurd h (Nat.lt_irrefl 0))).mono ?_; rintro e w4 ⟨g2, rfl, hg2, ho2, hb2⟩
  have N2 := Lib.hid ((nbx0 (w2.setCell ⟨w.heap.size + 1, 1, none⟩ (.slice (some ⟨g1, 0, none⟩) m1 m1)) #[.int .i64 n, .slice none 0 0] 51).b hb2)
  have N1c := Lib.hid ((N1b.out.b ((Below.refl _ _).alloc (Nat.le_refl _) (.cells #[.int .i64 n, .slice none 0 0] 51))).b hb2)
  have N0c := Lib.hid ((N0b.out.b ((Below.refl _ _).alloc (Nat.le_refl _) (.cells #[.int .i64 n, .slice none 0 0] 51))).b hb2)
  have O1c := Lib.hid (ob_block (ob_block O1b.out (Go.Deep.blk_alloc_lt _ (.cells #[.int .i64 n, .slice none 0 0] 51) _ (ob_lt O1b.out))) (hb2.block _ (by simp; omega)))
  have HB4 := Lib.hid ((HB2b.out.alloc (by simp; omega) (.cells #[.int .i64 n, .slice none 0 0] 51)).trans (hb2.mono (by simp; omega)))
  have O2 := Lib.hid (ob_zero (ho2.congr (fun i _ => by rw [if_neg (Nat.not_lt_zero i)])))
  simp only [World.size_setCell, World.size_alloc] at N2 hg2
  have hg2l := ob_lt O2.out
  obtain ⟨q2, hq2⟩ : ∃ q2, q2 = w2.heap.size := ⟨_, rfl⟩
  rw [← hq2] at N2 hg2 hg1l hs2 ⊢
  clear hq2 d0 d1 t1 ho2 hb2 N1 N0a N1b N0b O1 O1b HB2 HB2b
  have d0 := N2.out.cell 0 _ rfl
  have d1 := N2.out.cell 1 _ rfl
  have t1 := N2.out.free 1
  have hq2l := N2.out.lt
  have T6 := Lib.hid (show TW w g1 m1 q2 g2 m2 z1 n (fun _ => false) (fun _ => false) 0 (some ⟨w4.heap.size, 0, none⟩) n (laV N) ((w4.setCell ⟨q2, 1, none⟩ (.slice (some ⟨g2, 0, none⟩) m2 m2)).alloc (.cells (madeCells #[.int .u8 0] n) 5)) from by
    have hal := (Below.refl (w4.setCell ⟨q2, 1, none⟩ (.slice (some ⟨g2, 0, none⟩) m2 m2)).heap.size (w4.setCell ⟨q2, 1, none⟩ (.slice (some ⟨g2, 0, none⟩) m2 m2))).alloc (Nat.le_refl _) (.cells (madeCells #[.int .u8 0] n) 5)
    have hN2 := N2.out.set 1 (.slice (some ⟨g2, 0, none⟩) m2 m2)
    have b0 := Go.Deep.blk_setCell_other w4 ⟨q2, 1, none⟩ (.slice (some ⟨g2, 0, none⟩) m2 m2)
    have hN1 : NBX w.heap.size (w.heap.size + 1) #[.int .i64 z1, .slice (some ⟨g1, 0, none⟩) m1 m1] 51 (w4.setCell ⟨q2, 1, none⟩ (.slice (some ⟨g2, 0, none⟩) m2 m2)) := ⟨(b0 _ (show w.heap.size + 1 ≠ q2 by omega)).trans N1c.out.blk, by omega⟩
    have hN0 : NBX w.heap.size w.heap.size #[.int .i64 0, .slice none 0 0, .int .i64 0, .slice none 0 0, .string ⟨#[]⟩] 53 (w4.setCell ⟨q2, 1, none⟩ (.slice (some ⟨g2, 0, none⟩) m2 m2)) := ⟨(b0 _ (show w.heap.size ≠ q2 by omega)).trans N0c.out.blk, by omega⟩
    have hO1 := ob_block O1c.out (b0 g1 (show g1 ≠ q2 by omega))
    have hO2 := ob_block O2.out (b0 g2 (show g2 ≠ q2 by omega))
    have hmd := World.ownsRow_made (base := w.heap.size + 1) (e := 5) (size := 1) (w4.setCell ⟨q2, 1, none⟩ (.slice (some ⟨g2, 0, none⟩) m2 m2)) (madeCells #[.int .u8 0] n) n (by simp; omega) (by unfold maxLen; omega) (by simp [madeCells])
    rw [World.size_setCell] at hmd
    exact ⟨(below_setAt HB4.out (by omega) _).trans (hal.mono (by simp; have := HB4.out.size; omega)), hN0.b hal, hN1.b hal, NBX.b ⟨hN2.blk, by omega⟩ hal, ob_block hO1 (hal.block _ (ob_lt hO1)), ob_block hO2 (hal.block _ (ob_lt hO2)), hmd, by omega⟩)
  obtain ⟨TA, hTA⟩ : ∃ TA, TA = if nc = 1 then some (⟨g, 0, none⟩ : Addr) else some ⟨g, 4, none⟩ := ⟨_, rfl⟩
  have hsl := fun W => run_tailN g n nc hpos W
  rw [← hTA] at hsl
  have HTA := Lib.hid hTA
  have HS0 := Lib.hid (show shU N 0 = fun _ => false by funext p; rfl)
  have HE0 := Lib.hid (show enU L N 0 = fun _ => false by funext p; unfold enU; rw [show decide (1 ≤ p ∧ p ≤ 0) = false by rw [decide_eq_false_iff_not]; omega]; rfl)
  clear hTA N0c N1c O1c HB4 O2
  go_wp2_with fail
  generalize (w4.setCell ⟨q2, 1, none⟩ (.slice (some ⟨g2, 0, none⟩) m2 m2)).alloc (.cells (madeCells #[.int .u8 0] n) 5) = w6 at *
  go_loopw [7, 32] (fun l i wr => ∃ (j : Nat) (A3 : Option Addr) (c3 : Nat), j ≤ n - 1 ∧ i = .int .i64 j ∧ l = .slice A3 j c3 ∧ Hid (TW w g1 m1 q2 g2 m2 z1 n (shU N j) (enU L N j) j A3 c3 (laV N) wr)) (fun _ i _ => n - 1 - (intOf i).toNat)
  case atStart => exact ⟨0, _, _, Nat.zero_le _, rfl, rfl, Lib.hid (by rw [HS0.out, HE0.out]; exact T6.out)⟩
  case round =>
    obtain ⟨j, A3, c3, hj, rfl, rfl, HT⟩ := hrel
    by_cases hlj : j < n - 1
    · have hTA2 : TA = some ⟨g, 4, none⟩ := by rw [HTA.out, if_neg (by omega)]
      have hj1 : j + 1 < R.length := by rw [HRn.out]; omega
      have hjN : j + 1 < N.length := by rw [HNn.out]; omega
      obtain ⟨r, hr⟩ : ∃ r, r = ndG R (j + 1) := ⟨_, rfl⟩
      obtain ⟨P, hP⟩ : ∃ P : ByteArray, P = ⟨r.path.toArray⟩ := ⟨_, rfl⟩
      have hPN : r.path = ndA N (j + 1) := by rw [hr, ← ndA_paths hj1, HRN.out]
      have HPP := Lib.hid (show P.data.toList = ndA N (j + 1) by rw [hP, ← hPN])
      have hup : r.up = par N (j + 1) := by rw [hr]; exact HU.out (j + 1) (by omega) (by omega)
      obtain ⟨gb, go, hgb, hgl, hgc⟩ := (HG.out.b HT.out.below) (by omega)
      cases hgb
      have x0 : wr.cell? ⟨g, 4 + j * 4, none⟩ = some (.int .i64 r.less) := by have h := hgc ((j + 1) * 4) (by omega); rw [ndF_0, ← hr, Nat.zero_add, show (j + 1) * 4 = 4 + j * 4 by omega] at h; exact h
      have x1 : wr.cell? ⟨g, 4 + j * 4 + 1, none⟩ = some (.int .i64 r.beg) := by have h := hgc ((j + 1) * 4 + 1) (by omega); rw [ndF_1, ← hr, Nat.zero_add, show (j + 1) * 4 = 4 + j * 4 by omega] at h; exact h
      have x2 : wr.cell? ⟨g, 4 + j * 4 + 2, none⟩ = some (.string P) := by have h := hgc ((j + 1) * 4 + 2) (by omega); rw [ndF_2, ← hr, ← hP, Nat.zero_add, show (j + 1) * 4 = 4 + j * 4 by omega] at h; exact h
      have x3 : wr.cell? ⟨g, 4 + j * 4 + 3, none⟩ = some (.int .i64 r.up) := by have h := hgc ((j + 1) * 4 + 3) (by omega); rw [ndF_3, ← hr, Nat.zero_add, show (j + 1) * 4 = 4 + j * 4 by omega] at h; exact h
      have hbl := HOK.out.blk r (by rw [hr]; exact ndG_mem hj1)
      have hkey : ∃ s, s ∈ L ∧ r.path <+: s := by
        rcases (HN.out.2 r.path).1 (by rw [hPN]; exact nd_mem hjN) with e | e
        · exact absurd (hPN.symm.trans e) (HN.out.ne (by omega) hjN)
        · exact e
      have hbp := blk_pos hbl hkey
      have HBF := Lib.hid (blk_first HI.out hbl hbp)
      have hps : P.size ≤ 12 ∧ 1 ≤ P.size := by
        obtain ⟨s, hs, hps⟩ := hkey
        have h1 := hps.length_le
        have h2 := HL12.out s hs
        have h3 := List.length_pos_iff.2 (HN.out.ne (j := j + 1) (by omega) hjN)
        rw [← ba_len, HPP.out, ← hPN]; rw [← hPN] at h3; omega
      have hbk := hbl.1
      rw [hLk] at hbk
      obtain ⟨sp, hsp⟩ : ∃ sp, sp = shP N (j + 1) := ⟨_, rfl⟩
      have hsp2 : sp = j + r.up := by rw [hsp, hup]; unfold shP; omega
      have hspt := HN.out.shP_top (j := j + 1) (by omega) hjN
      rw [HNn.out, ← hsp] at hspt
      have HSP := Lib.hid (shU_succ N j)
      rw [← hsp] at HSP
      have e3 : IntKind.i64.wrap ((j : Int) + (r.up : Int)) = (sp : Int) := by rw [hsp2, show (j : Int) + (r.up : Int) = ((j + r.up : Nat) : Int) by push_cast; rfl]; exact IntWalk.i64_in _ (by omega)
      have hsp16 : sp < 16 * m1 := by omega
      have hsub : GRow w (subS A r.less c) r.beg (strV fun i => S (r.less + i)) := (tail_rowS (k := c) HR.out (by omega) hkc).mono (by omega)
      obtain ⟨kb, ko, hA, hkb, hkk⟩ := hsub (by omega)
      have HAM := Lib.hid (show ∀ W, Calls Try.prog 79 #[.agg #[.int .i64 r.less, .int .i64 r.beg], .slice A k c] W fun e w' => e = .returned (.slice (some ⟨kb, ko, none⟩) r.beg (c - r.less)) ∧ Below W.heap.size W w' from fun W => by rw [← hA]; exact impl_among hbk hkc (by omega))
      have HKC := Lib.hid (show ∀ W, Below w.heap.size w W → W.cell? ⟨kb, ko, none⟩ = some (.string (S r.less)) from fun W hW => by
        have h := (hW.cell (p := ⟨kb, ko, none⟩) hkb).trans (show w.cell? ⟨kb, ko, none⟩ = _ from hkk 0 (by omega))
        exact h)
      have HEN := Lib.hid (show ((S r.less).toList == P.toList) = enB L N (j + 1) from by
        rw [ba_eq, HPP.out, HLA.out r.less (by omega), ← hPN]
        unfold enB
        rw [← hPN]
        exact decide_eq_decide.2 HBF.out)
      have HUL := Lib.hid hup
      clear hr hP hup hPN hgc hkey hbl hsp hsp2 hA hkk hsub HBF
      subst hTA2
      have hal3 := (Below.refl wr.heap.size wr).alloc (Nat.le_refl _) (.cells #[.int .i64 r.less, .int .i64 r.beg, .string P, .int .i64 r.up] 89)
      have T3 := Lib.hid (HT.out.b hal3)
      have N3 := Lib.hid (nbx0 wr #[.int .i64 r.less, .int .i64 r.beg, .string P, .int .i64 r.up] 89)
      have d1 := T3.out.b1.cell 1 _ rfl
      have hg1w := ob_lt HT.out.o1
      have hg2w := ob_lt HT.out.o2
      have hszr := HT.out.below.size
      obtain ⟨q3, hq3⟩ : ∃ q3, q3 = wr.heap.size := ⟨_, rfl⟩
      have HLB := Lib.hid (show (Value.slice A3 j c3).ownBlock ≠ some q3 from fun e => by have := (HT.out.o3.lt q3 e).2; omega)
      clear hal3
      go_wp2_with fail
      rw [← hq3] at N3 ⊢
      generalize wr.alloc (.cells #[.int .i64 r.less, .int .i64 r.beg, .string P, .int .i64 r.up] 89) = w7 at *
      clear hq3 x0 x1 x2 x3
      refine (impl_setOn T3.out.o1 (by omega) hsp16).mono ?_; rintro e w8 ⟨rfl, ho8, hg8⟩
      rw [HSP.out] at ho8
      have T8 := Lib.hid (T3.out.set1 ho8 hg8)
      have N8 := Lib.hid (show NBX q3 q3 #[.int .i64 r.less, .int .i64 r.beg, .string P, .int .i64 r.up] 89 w8 from ⟨(hg8.block q3 N3.out.lt (fun e => by injection e with e; exact nbx_ne_ob N3.out T3.out.o1 (by decide) e)).trans N3.out.blk, N3.out.ge⟩)
      clear ho8 hg8 d1 T3 N3 HT
      have n0 := N8.out.cell 0 _ rfl
      have n1 := N8.out.cell 1 _ rfl
      have n2 := N8.out.cell 2 _ rfl
      have hsz8 := T8.out.below.size
      have hw1 : w.heap.size + 1 ≤ w8.heap.size := by have := N8.out.lt; have := ob_lt T8.out.o1; have := T8.out.ne; omega
      have e7 : IntKind.i64.wrap ((P.size : Int) - 1) = (P.size : Int) - 1 := IntWalk.i64_in _ (by omega)
      have q7 : (P.size : Int) - 1 < (P.size : Int) := by omega
      have q8 : 0 ≤ (P.size : Int) - 1 := by omega
      have hix : P.size - 1 < P.size := by omega
      have HLA2 := Lib.hid (show byV (laV N) j = .int .u8 ((P[P.size - 1]'hix).toNat : Int) from by
        have h1 := ba_nth (x := P) hix
        unfold byV laV
        rw [HPP.out] at h1
        have h3 : (ndA N (j + 1)).length = P.size := by rw [← ba_len, HPP.out]
        rw [List.getLastD_eq_getLast?, List.getLast?_eq_getElem?, h3, h1]; rfl)
      go_upto_region 10 with fail
      go_wp2_with (at_builtin; refine wpList_pushR4 rfl _ _ 80 rfl (w.heap.size + 1) 5 (.int .u8 0) 1 Try.underlying80 infoBy rfl A3 _ c3 (byV (laV N)) _ w8 rfl T8.out.o3 rfl HLA2.out rfl (by omega) (by omega) hw1 ?_)
      intro A9 c9 w9 ho9 hb9 hg9 _
      have T9 := Lib.hid (T8.out.push ho9 hb9 hg9)
      have N9 := Lib.hid (show NBX q3 q3 #[.int .i64 r.less, .int .i64 r.beg, .string P, .int .i64 r.up] 89 w9 from ⟨((hg9.block q3 (by simp; have := N8.out.lt; omega) (fun e => HLB.out e.symm)).trans (Go.Deep.blk_alloc_lt _ _ _ N8.out.lt)).trans N8.out.blk, N8.out.ge⟩)
      clear ho9 hb9 hg9 n0 n1 n2
      have n0 := N9.out.cell 0 _ rfl
      have n1 := N9.out.cell 1 _ rfl
      have n2 := N9.out.cell 2 _ rfl
      have kk0 := HKC.out _ T9.out.below
      have HKS := Lib.hid (show ∀ W, Below w9.heap.size w9 W → W.cell? ⟨q3, 0, none⟩ = some (.int .i64 r.less) ∧ W.cell? ⟨q3, 1, none⟩ = some (.int .i64 r.beg) ∧ W.cell? ⟨q3, 2, none⟩ = some (.string P) ∧ W.cell? ⟨kb, ko, none⟩ = some (.string (S r.less)) from fun W hW => ⟨(N9.out.b hW).cell 0 _ rfl, (N9.out.b hW).cell 1 _ rfl, (N9.out.b hW).cell 2 _ rfl, HKC.out _ (T9.out.b hW).below⟩)
      have q9 : (0 : Int) < (r.beg : Int) := by omega
      have q10 : 0 < r.beg := by omega
      cases hen : enB L N (j + 1) with
      | true =>
        have hen2 : ((S r.less).toList == P.toList) = true := by rw [HEN.out, hen]
        have HEU := Lib.hid (enU_yes hen)
        clear hen
        go_upto_region 11 with fail
        go_region_held3 (fun W => W.cell? ⟨q3, 0, none⟩ = some (.int .i64 r.less) ∧ W.cell? ⟨q3, 1, none⟩ = some (.int .i64 r.beg) ∧ W.cell? ⟨q3, 2, none⟩ = some (.string P) ∧ W.cell? ⟨kb, ko, none⟩ = some (.string (S r.less)))
          (first | with_reducible exact HKS.out _ hb10 | (go_keep; done))
          (first
            | (go_at_call 79; refine (HAM.out _).mono ?_; rintro e w10 ⟨rfl, hb10'⟩; have hb10 := of_drew hb10'; clear hb10'))
        have T10 := Lib.hid (T9.out.b hb10)
        have hsz10 := hb10.size
        clear hb10 n0 n1 n2 kk0
        have d2 := T10.out.b2.cell 1 _ rfl
        go_wp2_with fail
        refine (impl_setOn (i := j + 1) T10.out.o2 (by omega) (by omega)).mono ?_; rintro e w11 ⟨rfl, ho11, hg11⟩
        rw [HEU.out] at ho11
        have T11 := Lib.hid (T10.out.set2 ho11 hg11)
        clear ho11 hg11
        go_wp2_with fail
        go_roundw
        case rel => exact ⟨j + 1, A9, c9, by omega, by go_num, rfl, T11⟩
        case measure => simp [intOf]; omega
      | false =>
        have hen2 : ((S r.less).toList == P.toList) = false := by rw [HEN.out, hen]
        have HEU := Lib.hid (enU_no hen)
        clear hen
        go_upto_region 11 with fail
        go_region_held3 (fun W => W.cell? ⟨q3, 0, none⟩ = some (.int .i64 r.less) ∧ W.cell? ⟨q3, 1, none⟩ = some (.int .i64 r.beg) ∧ W.cell? ⟨q3, 2, none⟩ = some (.string P) ∧ W.cell? ⟨kb, ko, none⟩ = some (.string (S r.less)))
          (first | with_reducible exact HKS.out _ hb10 | (go_keep; done))
          (first
            | (go_at_call 79; refine (HAM.out _).mono ?_; rintro e w10 ⟨rfl, hb10'⟩; have hb10 := of_drew hb10'; clear hb10'))
        have T10 := Lib.hid (T9.out.b hb10)
        have hsz10 := hb10.size
        clear hb10 n0 n1 n2 kk0
        have d2 := T10.out.b2.cell 1 _ rfl
        have T11 := Lib.hid (show TW w g1 m1 q2 g2 m2 z1 n (shU N (j + 1)) (enU L N (j + 1)) (j + 1) A9 c9 (laV N) w10 from by rw [← HEU.out]; exact T10.out)
        go_wp2_with fail
        go_roundw
        case rel => exact ⟨j + 1, A9, c9, by omega, by go_num, rfl, T11⟩
        case measure => simp [intOf]; omega
    · obtain rfl : j = n - 1 := by omega
      have hFS := shU_full HN.out
      have hFE := enU_full HN.out HNE.out
      rw [HNn.out] at hFS hFE
      have hT := HT.out
      rw [hFS, hFE] at hT
      have T12 := Lib.hid hT
      have hcv := conv_by (c := c3) ((owned_vec hT.o3).row)
      have hcv2 : (convert 80 9 (.slice A3 (n - 1) c3)).run Try.prog wr = .ok (.string (laS N)) wr := by
        rw [hcv]; unfold laS; rw [HNn.out]
      clear hFS hFE hT hcv HT
      have d0 := T12.out.b1.cell 0 _ rfl
      have d1 := T12.out.b1.cell 1 _ rfl
      have d2 := T12.out.b2.cell 0 _ rfl
      have d3 := T12.out.b2.cell 1 _ rfl
      have y0 := T12.out.res.cell 0 _ rfl
      have y1 := T12.out.res.cell 1 _ rfl
      have y2 := T12.out.res.cell 2 _ rfl
      have y3 := T12.out.res.cell 3 _ rfl
      have y4 := T12.out.res.cell 4 _ rfl
      have f0 := T12.out.res.free 0
      have f1 := T12.out.res.free 1
      have f2 := T12.out.res.free 2
      have f3 := T12.out.res.free 3
      have f4 := T12.out.res.free 4
      go_wp2_with fail
      refine bodyPost_ret (v := .agg #[.int .i64 z1, .slice (some ⟨g1, 0, none⟩) m1 m1, .int .i64 n, .slice (some ⟨g2, 0, none⟩) m2 m2, .string (laS N)]) (by simp [results, Try.results60, go_sem, y0, y1, y2, y3, y4]) rfl ?_
      have hz := HZ.out
      have h1 := HM1.out
      have h2 := HM2.out
      have h3 := HNn.out
      subst h3
      subst h1
      subst h2
      exact trVal_end hz T12.out.below T12.out.o1.own T12.out.o2.own T12.out.ne.2.1 T12.out.ne.2.2 T12.out.ne.1
end
end Go.Proofs.Ythaipemgndahfaa

/- BuildTrie: both sides. -/
namespace Go.Proofs.Ythaipemgndahfaa
open Go.RowKit

/-- The trie of keys, beside a word. -/
def TrIs (L N : List Byt) (w : World) (e : Ending) (w' : World) : Prop :=
  ∃ A c B d, e = .returned (.tuple #[.agg #[.int .i64 (2 * N.length - 1 : Nat), .slice A ((2 * N.length - 1 + 15) / 16) c, .int .i64 N.length, .slice B ((N.length + 15) / 16) d, .string (laS N)], .bool true]) ∧
    Ow w.heap.size w'.heap.size 3 A ((2 * N.length - 1 + 15) / 16) (intV (wdB (shF N))) w' ∧ Ow w.heap.size w'.heap.size 3 B ((N.length + 15) / 16) (intV (wdB (enF L N))) w' ∧ Apart ((2 * N.length - 1 + 15) / 16) A ((N.length + 15) / 16) B ∧ Below w.heap.size w w'
def NoTr (w : World) (e : Ending) (w' : World) : Prop := e = .returned (.tuple #[.agg #[.int .i64 0, .slice none 0 0, .int .i64 0, .slice none 0 0, .string ⟨#[]⟩], .bool false]) ∧ Below w.heap.size w w'
section
variable {A : Option Addr} {k c : Nat} {S : Nat → ByteArray} {w : World}
set_option maxRecDepth 100000 in
set_option maxHeartbeats 4000000 in
theorem impl_buildTrie_no (h : keysB S k = false) (hk : k ≤ 1048576) (hs : ∀ i, i < k → (S i).size ≤ maxLen) (hr : GRow w A k (strV S)) :
    Calls Try.prog 35 #[.slice A k c] w (NoTr w) := by
  have HB := Lib.hid ((Below.refl w.heap.size w).alloc (Nat.le_refl _) (.cells #[.int .i64 0, .slice none 0 0, .int .i64 0, .slice none 0 0, .string ⟨#[]⟩] 53))
  have HK := Lib.hid (hr.b HB.out)
  clear hr
  go_enter Try.func35, Try.ntmps35
  go_wp2_with fail
  refine (impl_areKeys A k c S _ hk hs HK.out).mono ?_; rintro e w1 ⟨rfl, rfl⟩
  rw [h]
  go_wp2_with fail
  refine bodyPost_ret (v := .tuple #[.agg #[.int .i64 0, .slice none 0 0, .int .i64 0, .slice none 0 0, .string ⟨#[]⟩], .bool false]) (by simp [results, Try.results35, go_sem]) rfl ?_
  exact ⟨rfl, HB.out⟩

set_option maxRecDepth 100000 in
set_option maxHeartbeats 4000000 in
theorem impl_buildTrie {L N : List Byt} (hLL : lsOf S k = L) (hNL : ndL L = N) (hkb : keysB S k = true) (hkc : k ≤ c) (hs : ∀ i, i < k → (S i).size ≤ maxLen) (hr : GRow w A k (strV S)) :
    Calls Try.prog 35 #[.slice A k c] w (TrIs L N w) := by
  have hk := keysB_size hkb
  have hal := Lib.hid ((Below.refl w.heap.size w).alloc (Nat.le_refl _) (.cells #[.int .i64 0, .slice none 0 0, .int .i64 0, .slice none 0 0, .string ⟨#[]⟩] 53))
  have N1 := Lib.hid (nbx0 w #[.int .i64 0, .slice none 0 0, .int .i64 0, .slice none 0 0, .string ⟨#[]⟩] 53)
  have HK := Lib.hid (hr.b hal.out)
  clear hr
  go_enter Try.func35, Try.ntmps35
  go_wp2_with fail
  refine (impl_areKeys A k c S _ (by omega) hs HK.out).mono ?_; rintro e w1 ⟨rfl, rfl⟩
  rw [hkb]
  go_wp2_with fail
  refine (impl_nodesForN (L := L) hLL hkb hkc HK.out).mono ?_; rintro e w2 ⟨g, nc, R, rfl, ho2, hok, hb2⟩
  have HK2 := Lib.hid (HK.out.b hb2)
  have N2 := Lib.hid (N1.out.b hb2)
  have HB2 := Lib.hid (hal.out.trans (hb2.mono (by simp)))
  have HROW := Lib.hid ho2.row
  have hncc := ho2.blk.2.1
  have HOK := Lib.hid hok
  clear ho2 hb2 hok
  go_wp2_with fail
  refine (impl_trieOfN (n := R.length) rfl hLL hNL HOK.out hkb hkc hncc HK2.out HROW.out).mono ?_; rintro e w3 ⟨A1, c1, B1, d1, rfl, o1, o2, hap, hb3⟩
  have HB3 := Lib.hid (HB2.out.trans (hb3.mono HB2.out.size))
  have hlt := N2.out.lt
  have N3 := Lib.hid (N2.out.b hb3)
  have y0 := N3.out.cell 0 _ rfl
  have y1 := N3.out.cell 1 _ rfl
  have y2 := N3.out.cell 2 _ rfl
  have y3 := N3.out.cell 3 _ rfl
  have y4 := N3.out.cell 4 _ rfl
  have f0 := N3.out.free 0
  have f1 := N3.out.free 1
  have f2 := N3.out.free 2
  have f3 := N3.out.free 3
  have f4 := N3.out.free 4
  have HA := Lib.hid hap
  have O1 := Lib.hid ((((((owned (o1.mono (lo' := w.heap.size + 1) hlt (Nat.le_refl _))).setC (Nat.le_refl _) 0 (.int .i64 (2 * N.length - 1 : Nat))).setC (Nat.le_refl _) 1 (.slice A1 ((2 * N.length - 1 + 15) / 16) c1)).setC (Nat.le_refl _) 2 (.int .i64 N.length)).setC (Nat.le_refl _) 3 (.slice B1 ((N.length + 15) / 16) d1)).setC (Nat.le_refl _) 4 (.string (laS N)))
  have O2 := Lib.hid ((((((owned (o2.mono (lo' := w.heap.size + 1) hlt (Nat.le_refl _))).setC (Nat.le_refl _) 0 (.int .i64 (2 * N.length - 1 : Nat))).setC (Nat.le_refl _) 1 (.slice A1 ((2 * N.length - 1 + 15) / 16) c1)).setC (Nat.le_refl _) 2 (.int .i64 N.length)).setC (Nat.le_refl _) 3 (.slice B1 ((N.length + 15) / 16) d1)).setC (Nat.le_refl _) 4 (.string (laS N)))
  clear o1 o2 hap hb3
  go_wp2_with fail
  refine bodyPost_ret (v := .tuple #[.agg #[.int .i64 (2 * N.length - 1 : Nat), .slice A1 ((2 * N.length - 1 + 15) / 16) c1, .int .i64 N.length, .slice B1 ((N.length + 15) / 16) d1, .string (laS N)], .bool true]) (by simp [results, Try.results35, go_sem, y0, y1, y2, y3, y4]) rfl ?_
  exact ⟨A1, c1, B1, d1, rfl, O1.out.now.mono (by omega) O1.out.top, O2.out.now.mono (by omega) O2.out.top, HA.out, below_setAt (below_setAt (below_setAt (below_setAt (below_setAt (HB3.out) (by omega) _) (by omega) _) (by omega) _) (by omega) _) (by omega) _⟩

set_option maxRecDepth 100000 in
set_option maxHeartbeats 4000000 in
theorem spec_buildTrie_no (h : keysB S k = false) (hk : k ≤ 1048576) (hs : ∀ i, i < k → (S i).size ≤ maxLen) (hr : GRow w A k (strV S)) :
    Calls Try.prog 34 #[.slice A k c] w (NoTr w) := by
  have HB := Lib.hid ((Below.refl w.heap.size w).alloc (Nat.le_refl _) (.cells #[.int .i64 0, .slice none 0 0, .int .i64 0, .slice none 0 0, .string ⟨#[]⟩] 53))
  have HK := Lib.hid (hr.b HB.out)
  clear hr
  go_enter Try.func34, Try.ntmps34
  go_wp2_with fail
  refine (spec_biKeys A k c S _ hk hs HK.out).mono ?_; rintro e w1 ⟨rfl, rfl⟩
  rw [h]
  go_wp2_with fail
  refine bodyPost_ret (v := .tuple #[.agg #[.int .i64 0, .slice none 0 0, .int .i64 0, .slice none 0 0, .string ⟨#[]⟩], .bool false]) (by simp [results, Try.results34, go_sem]) rfl ?_
  exact ⟨rfl, HB.out⟩

set_option maxRecDepth 100000 in
set_option maxHeartbeats 4000000 in
theorem spec_buildTrie {L N : List Byt} (hLL : lsOf S k = L) (hNL : ndL L = N) (hkb : keysB S k = true) (hs : ∀ i, i < k → (S i).size ≤ maxLen) (hr : GRow w A k (strV S)) :
    Calls Try.prog 34 #[.slice A k c] w (TrIs L N w) := by
  have hk := keysB_size hkb
  have hal := Lib.hid ((Below.refl w.heap.size w).alloc (Nat.le_refl _) (.cells #[.int .i64 0, .slice none 0 0, .int .i64 0, .slice none 0 0, .string ⟨#[]⟩] 53))
  have N1 := Lib.hid (nbx0 w #[.int .i64 0, .slice none 0 0, .int .i64 0, .slice none 0 0, .string ⟨#[]⟩] 53)
  have HK := Lib.hid (hr.b hal.out)
  clear hr
  go_enter Try.func34, Try.ntmps34
  go_wp2_with fail
  refine (spec_biKeys A k c S _ (by omega) hs HK.out).mono ?_; rintro e w1 ⟨rfl, rfl⟩
  rw [hkb]
  go_wp2_with fail
  refine (spec_trOfN (L := L) (N := N) hLL (by rw [hLL]; exact hNL) hkb HK.out).mono ?_; rintro e w3 ⟨A1, c1, B1, d1, rfl, o1, o2, hap, hb3⟩
  have N2 := Lib.hid N1.out
  have HB2 := Lib.hid hal.out
  have HB3 := Lib.hid (HB2.out.trans (hb3.mono HB2.out.size))
  have hlt := N2.out.lt
  have N3 := Lib.hid (N2.out.b hb3)
  have y0 := N3.out.cell 0 _ rfl
  have y1 := N3.out.cell 1 _ rfl
  have y2 := N3.out.cell 2 _ rfl
  have y3 := N3.out.cell 3 _ rfl
  have y4 := N3.out.cell 4 _ rfl
  have f0 := N3.out.free 0
  have f1 := N3.out.free 1
  have f2 := N3.out.free 2
  have f3 := N3.out.free 3
  have f4 := N3.out.free 4
  have HA := Lib.hid hap
  have O1 := Lib.hid ((((((owned (o1.mono (lo' := w.heap.size + 1) hlt (Nat.le_refl _))).setC (Nat.le_refl _) 0 (.int .i64 (2 * N.length - 1 : Nat))).setC (Nat.le_refl _) 1 (.slice A1 ((2 * N.length - 1 + 15) / 16) c1)).setC (Nat.le_refl _) 2 (.int .i64 N.length)).setC (Nat.le_refl _) 3 (.slice B1 ((N.length + 15) / 16) d1)).setC (Nat.le_refl _) 4 (.string (laS N)))
  have O2 := Lib.hid ((((((owned (o2.mono (lo' := w.heap.size + 1) hlt (Nat.le_refl _))).setC (Nat.le_refl _) 0 (.int .i64 (2 * N.length - 1 : Nat))).setC (Nat.le_refl _) 1 (.slice A1 ((2 * N.length - 1 + 15) / 16) c1)).setC (Nat.le_refl _) 2 (.int .i64 N.length)).setC (Nat.le_refl _) 3 (.slice B1 ((N.length + 15) / 16) d1)).setC (Nat.le_refl _) 4 (.string (laS N)))
  clear o1 o2 hap hb3
  go_wp2_with fail
  refine bodyPost_ret (v := .tuple #[.agg #[.int .i64 (2 * N.length - 1 : Nat), .slice A1 ((2 * N.length - 1 + 15) / 16) c1, .int .i64 N.length, .slice B1 ((N.length + 15) / 16) d1, .string (laS N)], .bool true]) (by simp [results, Try.results34, go_sem, y0, y1, y2, y3, y4]) rfl ?_
  exact ⟨A1, c1, B1, d1, rfl, O1.out.now.mono (by omega) O1.out.top, O2.out.now.mono (by omega) O2.out.top, HA.out, below_setAt (below_setAt (below_setAt (below_setAt (below_setAt (HB3.out) (by omega) _) (by omega) _) (by omega) _) (by omega) _) (by omega) _⟩

end
theorem TrIs.row {L N : List Byt} {w w' : World} {e : Ending} (h : TrIs L N w e w') : ∃ A c B d, e = .returned (.tuple #[.agg #[.int .i64 (2 * N.length - 1 : Nat), .slice A ((2 * N.length - 1 + 15) / 16) c, .int .i64 N.length, .slice B ((N.length + 15) / 16) d, .string (laS N)], .bool true]) ∧ GRow w' A ((2 * N.length - 1 + 15) / 16) (intV (wdB (shF N))) ∧ GRow w' B ((N.length + 15) / 16) (intV (wdB (enF L N))) ∧ Below w.heap.size w w' := by
  obtain ⟨A, c, B, d, he, o1, o2, _, hb⟩ := h
  exact ⟨A, c, B, d, he, o1.rd.row (Nat.le_refl _), o2.rd.row (Nat.le_refl _), hb⟩
theorem NoTr.row {w w' : World} {e : Ending} (h : NoTr w e w') : ∃ A c B d, e = .returned (.tuple #[.agg #[.int .i64 0, .slice A 0 c, .int .i64 0, .slice B 0 d, .string ⟨#[]⟩], .bool false]) ∧ GRow w' A 0 (intV fun _ => 0) ∧ GRow w' B 0 (intV fun _ => 0) ∧ Below w.heap.size w w' :=
  ⟨none, 0, none, 0, h.1, GRow.zero, GRow.zero, h.2⟩
theorem NoTr.ow {w w' : World} {e : Ending} (h : NoTr w e w') : ∃ A c B d, e = .returned (.tuple #[.agg #[.int .i64 0, .slice A 0 c, .int .i64 0, .slice B 0 d, .string ⟨#[]⟩], .bool false]) ∧ Ow w.heap.size w'.heap.size 3 A 0 (intV fun _ => 0) w' ∧ Ow w.heap.size w'.heap.size 3 B 0 (intV fun _ => 0) w' ∧ Apart 0 A 0 B ∧ Below w.heap.size w w' :=
  ⟨none, 0, none, 0, h.1, ow_zero _ _ _ _ _ _, ow_zero _ _ _ _ _ _, fun h => absurd h (Nat.lt_irrefl 0), h.2⟩
end Go.Proofs.Ythaipemgndahfaa

/- The law of BuildTrie, walked: what both sides answer comes in as hypotheses. -/
namespace Go.Proofs.Ythaipemgndahfaa
open Go.RowKit

set_option maxRecDepth 100000 in
set_option maxHeartbeats 8000000 in
theorem main_FnExactBuildTrie (a0n0 : Nat) (a0X0 : Nat → ByteArray) (r0z0 : Int) (r0n1 : Nat) (r0X1 : Nat → Int) (r0z2 : Int) (r0n3 : Nat) (r0X3 : Nat → Int) (r0z4 : ByteArray) (r1z0 : Bool) (a0A0 : Option Addr) (a0c0 : Nat) (w : World) (ha0m0 : a0n0 ≤ maxLen) (ha0r0 : GRow w a0A0 a0n0 (strV a0X0)) (ha0s0 : ∀ i, i < a0n0 → (a0X0 i).size ≤ maxLen) (hr0m1 : r0n1 ≤ 1048576) (hr0m3 : r0n3 ≤ 1048576)
    (s1 : a0n0 + (sizeS a0X0 a0n0) ≤ 1048576 → ∀ (ua0A0 : Option Addr) (w : World), GRow w ua0A0 a0n0 (strV a0X0) → Calls Try.prog 34 #[.slice ua0A0 a0n0 a0n0] w fun e w' => ∃ vr0A1 vr0c1 vr0A3 vr0c3, e = .returned (.tuple #[.agg #[.int .i64 r0z0, .slice vr0A1 r0n1 vr0c1, .int .i64 r0z2, .slice vr0A3 r0n3 vr0c3, .string r0z4], .bool r1z0]) ∧ GRow w' vr0A1 r0n1 (intV r0X1) ∧ GRow w' vr0A3 r0n3 (intV r0X3) ∧ Below w.heap.size w w')
    (s2 : a0n0 + (sizeS a0X0 a0n0) ≤ 1048576 → ∀ (ua0A0 : Option Addr) (w : World), GRow w ua0A0 a0n0 (strV a0X0) → Calls Try.prog 35 #[.slice ua0A0 a0n0 a0n0] w fun e w' => ∃ vr0A1 vr0c1 vr0A3 vr0c3, e = .returned (.tuple #[.agg #[.int .i64 r0z0, .slice vr0A1 r0n1 vr0c1, .int .i64 r0z2, .slice vr0A3 r0n3 vr0c3, .string r0z4], .bool r1z0]) ∧ Ow w.heap.size w'.heap.size 3 vr0A1 r0n1 (intV r0X1) w' ∧ Ow w.heap.size w'.heap.size 3 vr0A3 r0n3 (intV r0X3) w' ∧ Apart r0n1 vr0A1 r0n3 vr0A3 ∧ Below w.heap.size w w') :
    Calls Try.prog 10 #[.slice a0A0 a0n0 a0c0] w fun e w' => e = .returned (.bool true) ∧ Below w.heap.size w w' := by
  have S1 := Lib.hid s1
  have S2 := Lib.hid s2
  clear s1 s2
  have FB := Lib.hid (At.start w)
  have Fa00 := Lib.hid (rd_of_row ha0r0)
  clear ha0r0
  go_enter Try.func10, Try.ntmps10
  go_wp2_with fail
  refine (sz_StringS ha0m0 ha0s0 Fa00.out.row (by omega) (by omega)).mono ?_; rintro e w1 ⟨rfl, hb⟩
  replace FB := Lib.hid (FB.out.b hb)
  replace Fa00 := Lib.hid (Fa00.out.b hb)
  have z_w1 : w.heap.size ≤ w1.heap.size := by have hsz := hb.size; first | omega | (simp at hsz; omega)
  clear hb
  by_cases hZ_a0 : ((a0n0 + (sizeS a0X0 a0n0) : Nat) : Int) ≤ (1048576 : Int)
  rotate_left
  · rw [szv_no hZ_a0]
    go_wp2_with fail
    go_ret
    exact ⟨rfl, FB.out.now⟩
  rw [szv_yes hZ_a0]
  have hL_a0 : ¬ (((1048576 : Int) - (((a0n0 : Nat) : Int) + (((sizeS a0X0 a0n0) : Nat) : Int))) < 0) := by omega
  replace S1 := Lib.hid (S1.out (by omega))
  replace S2 := Lib.hid (S2.out (by omega))
  have ha0k0 : a0n0 ≤ 1048576 := by omega
  go_wp2_with fail
  refine (to_StringSn ha0k0 Fa00.out.row).mono ?_; rintro e w2 ⟨tma0A0, rfl, ho0, hb⟩
  replace FB := Lib.hid (FB.out.b hb)
  replace Fa00 := Lib.hid (Fa00.out.b hb)
  have z_w2 : w1.heap.size ≤ w2.heap.size := by have hsz := hb.size; first | omega | (simp at hsz; omega)
  have Otma00 := Lib.hid (owned (ho0.mono (lo' := w1.heap.size) (Nat.le_refl _) (Nat.le_refl _)))
  clear hb ho0
  go_wp2_with fail
  refine (S1.out _ _ Otma00.out.orow).mono ?_; rintro e w3 ⟨mr0A1, mr0c1, mr0A3, mr0c3, rfl, hrr01, hrr03, hb⟩
  replace FB := Lib.hid (FB.out.b hb)
  replace Fa00 := Lib.hid (Fa00.out.b hb)
  replace Otma00 := Lib.hid (Otma00.out.b hb)
  have z_w3 : w2.heap.size ≤ w3.heap.size := by have hsz := hb.size; first | omega | (simp at hsz; omega)
  have Vmr01 := Lib.hid (rd_of_row hrr01)
  have Vmr03 := Lib.hid (rd_of_row hrr03)
  clear hb hrr01 hrr03
  clear Otma00
  replace FB := Lib.hid (FB.out.alloc (.cells #[.int .i64 r0z0, .slice mr0A1 r0n1 mr0c1, .int .i64 r0z2, .slice mr0A3 r0n3 mr0c3, .string r0z4] 53))
  replace Fa00 := Lib.hid (Fa00.out.alloc (.cells #[.int .i64 r0z0, .slice mr0A1 r0n1 mr0c1, .int .i64 r0z2, .slice mr0A3 r0n3 mr0c3, .string r0z4] 53))
  replace Vmr01 := Lib.hid (Vmr01.out.alloc (.cells #[.int .i64 r0z0, .slice mr0A1 r0n1 mr0c1, .int .i64 r0z2, .slice mr0A3 r0n3 mr0c3, .string r0z4] 53))
  replace Vmr03 := Lib.hid (Vmr03.out.alloc (.cells #[.int .i64 r0z0, .slice mr0A1 r0n1 mr0c1, .int .i64 r0z2, .slice mr0A3 r0n3 mr0c3, .string r0z4] 53))
  have Xmr0 := Lib.hid (boxed w3 #[.int .i64 r0z0, .slice mr0A1 r0n1 mr0c1, .int .i64 r0z2, .slice mr0A3 r0n3 mr0c3, .string r0z4] 53)
  go_wp2_with fail
  refine (to_StringSn ha0k0 Fa00.out.row).mono ?_; rintro e w4 ⟨xa0A0, rfl, ho0, hb⟩
  replace FB := Lib.hid (FB.out.b hb)
  replace Fa00 := Lib.hid (Fa00.out.b hb)
  replace Vmr01 := Lib.hid (Vmr01.out.b hb)
  replace Vmr03 := Lib.hid (Vmr03.out.b hb)
  replace Xmr0 := Lib.hid (Xmr0.out.b hb)
  have z_w4 : w3.heap.size + 1 ≤ w4.heap.size := by have hsz := hb.size; first | omega | (simp at hsz; omega)
  have Oxa00 := Lib.hid (owned (ho0.mono (lo' := w3.heap.size + 1) (by simp) (Nat.le_refl _)))
  clear hb ho0
  go_wp2_with fail
  refine (S2.out _ _ Oxa00.out.orow).mono ?_; rintro e w5 ⟨gr0A1, gr0c1, gr0A3, gr0c3, rfl, hrr01, hrr03, hap_g_0, hb⟩
  replace FB := Lib.hid (FB.out.b hb)
  replace Fa00 := Lib.hid (Fa00.out.b hb)
  replace Vmr01 := Lib.hid (Vmr01.out.b hb)
  replace Vmr03 := Lib.hid (Vmr03.out.b hb)
  replace Xmr0 := Lib.hid (Xmr0.out.b hb)
  replace Oxa00 := Lib.hid (Oxa00.out.b hb)
  have z_w5 : w4.heap.size ≤ w5.heap.size := by have hsz := hb.size; first | omega | (simp at hsz; omega)
  have Ogr01 := Lib.hid (owned (hrr01.mono (lo' := w4.heap.size) (Nat.le_refl _) (Nat.le_refl _)))
  have Ogr03 := Lib.hid (owned (hrr03.mono (lo' := w4.heap.size) (Nat.le_refl _) (Nat.le_refl _)))
  clear hb hrr01 hrr03
  replace FB := Lib.hid (FB.out.alloc (.cells #[.int .i64 r0z0, .slice gr0A1 r0n1 gr0c1, .int .i64 r0z2, .slice gr0A3 r0n3 gr0c3, .string r0z4] 53))
  replace Fa00 := Lib.hid (Fa00.out.alloc (.cells #[.int .i64 r0z0, .slice gr0A1 r0n1 gr0c1, .int .i64 r0z2, .slice gr0A3 r0n3 gr0c3, .string r0z4] 53))
  replace Vmr01 := Lib.hid (Vmr01.out.alloc (.cells #[.int .i64 r0z0, .slice gr0A1 r0n1 gr0c1, .int .i64 r0z2, .slice gr0A3 r0n3 gr0c3, .string r0z4] 53))
  replace Vmr03 := Lib.hid (Vmr03.out.alloc (.cells #[.int .i64 r0z0, .slice gr0A1 r0n1 gr0c1, .int .i64 r0z2, .slice gr0A3 r0n3 gr0c3, .string r0z4] 53))
  replace Xmr0 := Lib.hid (Xmr0.out.alloc (.cells #[.int .i64 r0z0, .slice gr0A1 r0n1 gr0c1, .int .i64 r0z2, .slice gr0A3 r0n3 gr0c3, .string r0z4] 53))
  replace Oxa00 := Lib.hid (Oxa00.out.alloc (.cells #[.int .i64 r0z0, .slice gr0A1 r0n1 gr0c1, .int .i64 r0z2, .slice gr0A3 r0n3 gr0c3, .string r0z4] 53))
  replace Ogr01 := Lib.hid (Ogr01.out.alloc (.cells #[.int .i64 r0z0, .slice gr0A1 r0n1 gr0c1, .int .i64 r0z2, .slice gr0A3 r0n3 gr0c3, .string r0z4] 53))
  replace Ogr03 := Lib.hid (Ogr03.out.alloc (.cells #[.int .i64 r0z0, .slice gr0A1 r0n1 gr0c1, .int .i64 r0z2, .slice gr0A3 r0n3 gr0c3, .string r0z4] 53))
  have Xgr0 := Lib.hid (boxed w5 #[.int .i64 r0z0, .slice gr0A1 r0n1 gr0c1, .int .i64 r0z2, .slice gr0A3 r0n3 gr0c3, .string r0z4] 53)
  have c_Xgr0_0 := Xgr0.out.now 0 _ rfl
  have c_Xgr0_1 := Xgr0.out.now 1 _ rfl
  have c_Xgr0_2 := Xgr0.out.now 2 _ rfl
  have c_Xgr0_3 := Xgr0.out.now 3 _ rfl
  have c_Xgr0_4 := Xgr0.out.now 4 _ rfl
  have c_Xmr0_0 := Xmr0.out.now 0 _ rfl
  have c_Xmr0_1 := Xmr0.out.now 1 _ rfl
  have c_Xmr0_2 := Xmr0.out.now 2 _ rfl
  have c_Xmr0_3 := Xmr0.out.now 3 _ rfl
  have c_Xmr0_4 := Xmr0.out.now 4 _ rfl
  go_wp2_with fail
  refine (eq_Trie hr0m1 hr0m3 Ogr01.out.orow Ogr03.out.orow Vmr01.out.row Vmr03.out.row).mono ?_; rintro e w6 ⟨rfl, hb⟩
  replace FB := Lib.hid (FB.out.b hb)
  replace Fa00 := Lib.hid (Fa00.out.b hb)
  replace Vmr01 := Lib.hid (Vmr01.out.b hb)
  replace Vmr03 := Lib.hid (Vmr03.out.b hb)
  replace Xmr0 := Lib.hid (Xmr0.out.b hb)
  replace Oxa00 := Lib.hid (Oxa00.out.b hb)
  replace Ogr01 := Lib.hid (Ogr01.out.b hb)
  replace Ogr03 := Lib.hid (Ogr03.out.b hb)
  replace Xgr0 := Lib.hid (Xgr0.out.b hb)
  have z_w6 : w5.heap.size + 1 ≤ w6.heap.size := by have hsz := hb.size; first | omega | (simp at hsz; omega)
  clear c_Xgr0_0 c_Xgr0_1 c_Xgr0_2 c_Xgr0_3 c_Xgr0_4 c_Xmr0_0 c_Xmr0_1 c_Xmr0_2 c_Xmr0_3 c_Xmr0_4
  clear hb
  go_wp2_with fail
  refine (to_StringSn ha0k0 Fa00.out.row).mono ?_; rintro e w7 ⟨ya0A0, rfl, ho0, hb⟩
  replace FB := Lib.hid (FB.out.b hb)
  replace Fa00 := Lib.hid (Fa00.out.b hb)
  replace Vmr01 := Lib.hid (Vmr01.out.b hb)
  replace Vmr03 := Lib.hid (Vmr03.out.b hb)
  replace Xmr0 := Lib.hid (Xmr0.out.b hb)
  replace Oxa00 := Lib.hid (Oxa00.out.b hb)
  replace Ogr01 := Lib.hid (Ogr01.out.b hb)
  replace Ogr03 := Lib.hid (Ogr03.out.b hb)
  replace Xgr0 := Lib.hid (Xgr0.out.b hb)
  have z_w7 : w6.heap.size ≤ w7.heap.size := by have hsz := hb.size; first | omega | (simp at hsz; omega)
  have Oya00 := Lib.hid (owned (ho0.mono (lo' := w6.heap.size) (Nat.le_refl _) (Nat.le_refl _)))
  clear hb ho0
  go_wp2_with fail
  refine (eq_StringS ha0k0 Oxa00.out.orow Oya00.out.orow).mono ?_; rintro e w8 ⟨rfl, hb⟩
  replace FB := Lib.hid (FB.out.b hb)
  replace Fa00 := Lib.hid (Fa00.out.b hb)
  replace Vmr01 := Lib.hid (Vmr01.out.b hb)
  replace Vmr03 := Lib.hid (Vmr03.out.b hb)
  replace Xmr0 := Lib.hid (Xmr0.out.b hb)
  replace Oxa00 := Lib.hid (Oxa00.out.b hb)
  replace Ogr01 := Lib.hid (Ogr01.out.b hb)
  replace Ogr03 := Lib.hid (Ogr03.out.b hb)
  replace Xgr0 := Lib.hid (Xgr0.out.b hb)
  replace Oya00 := Lib.hid (Oya00.out.b hb)
  have z_w8 : w7.heap.size ≤ w8.heap.size := by have hsz := hb.size; first | omega | (simp at hsz; omega)
  clear hb
  clear Oya00
  go_wp2_with fail
  refine (mark_StringS ha0k0 Oxa00.out.now Oxa00.out.top (by omega) (by omega)).mono ?_; rintro e w9 ⟨rfl, hm0, hg⟩
  replace FB := Lib.hid (FB.out.far hg (by omega))
  replace Fa00 := Lib.hid (Fa00.out.far hg (by omega))
  replace Vmr01 := Lib.hid (Vmr01.out.far hg (by omega))
  replace Vmr03 := Lib.hid (Vmr03.out.far hg (by omega))
  replace Xmr0 := Lib.hid (Xmr0.out.far hg (by omega))
  replace Ogr01 := Lib.hid (Ogr01.out.far hg (by omega))
  replace Ogr03 := Lib.hid (Ogr03.out.far hg (by omega))
  replace Xgr0 := Lib.hid (Xgr0.out.far hg (by omega))
  have z_w9 : w8.heap.size ≤ w9.heap.size := by have hsz := hg.size; first | omega | (simp at hsz; omega)
  replace Oxa00 := Lib.hid (At.mk hm0 (Nat.le_trans Oxa00.out.top hg.size) (Ow.lives _ _ _ _ _ _))
  clear hg hm0
  clear Oxa00
  have c_Xgr0_0 := Xgr0.out.now 0 _ rfl
  have c_Xgr0_1 := Xgr0.out.now 1 _ rfl
  have c_Xgr0_2 := Xgr0.out.now 2 _ rfl
  have c_Xgr0_3 := Xgr0.out.now 3 _ rfl
  have c_Xgr0_4 := Xgr0.out.now 4 _ rfl
  have c_Xmr0_0 := Xmr0.out.now 0 _ rfl
  have c_Xmr0_1 := Xmr0.out.now 1 _ rfl
  have c_Xmr0_2 := Xmr0.out.now 2 _ rfl
  have c_Xmr0_3 := Xmr0.out.now 3 _ rfl
  have c_Xmr0_4 := Xmr0.out.now 4 _ rfl
  go_wp2_with fail
  refine (eq_Trie hr0m1 hr0m3 Ogr01.out.orow Ogr03.out.orow Vmr01.out.row Vmr03.out.row).mono ?_; rintro e w10 ⟨rfl, hb⟩
  replace FB := Lib.hid (FB.out.b hb)
  replace Fa00 := Lib.hid (Fa00.out.b hb)
  replace Vmr01 := Lib.hid (Vmr01.out.b hb)
  replace Vmr03 := Lib.hid (Vmr03.out.b hb)
  replace Xmr0 := Lib.hid (Xmr0.out.b hb)
  replace Ogr01 := Lib.hid (Ogr01.out.b hb)
  replace Ogr03 := Lib.hid (Ogr03.out.b hb)
  replace Xgr0 := Lib.hid (Xgr0.out.b hb)
  have z_w10 : w9.heap.size ≤ w10.heap.size := by have hsz := hb.size; first | omega | (simp at hsz; omega)
  clear c_Xgr0_0 c_Xgr0_1 c_Xgr0_2 c_Xgr0_3 c_Xgr0_4 c_Xmr0_0 c_Xmr0_1 c_Xmr0_2 c_Xmr0_3 c_Xmr0_4
  clear hb
  have c_Xgr0_0 := Xgr0.out.now 0 _ rfl
  have c_Xgr0_1 := Xgr0.out.now 1 _ rfl
  have c_Xgr0_2 := Xgr0.out.now 2 _ rfl
  have c_Xgr0_3 := Xgr0.out.now 3 _ rfl
  have c_Xgr0_4 := Xgr0.out.now 4 _ rfl
  go_wp2_with fail
  refine (mark_Trie hr0m1 hr0m3 Ogr01.out.now Ogr03.out.now Ogr01.out.top hap_g_0 (by omega) (by omega)).mono ?_; rintro e w11 ⟨rfl, hm0, hm1, hg⟩
  replace FB := Lib.hid (FB.out.far hg (by omega))
  replace Fa00 := Lib.hid (Fa00.out.far hg (by omega))
  replace Vmr01 := Lib.hid (Vmr01.out.far hg (by omega))
  replace Vmr03 := Lib.hid (Vmr03.out.far hg (by omega))
  replace Xmr0 := Lib.hid (Xmr0.out.far hg (by omega))
  replace Xgr0 := Lib.hid (Xgr0.out.far hg (by omega))
  have z_w11 : w10.heap.size ≤ w11.heap.size := by have hsz := hg.size; first | omega | (simp at hsz; omega)
  replace Ogr01 := Lib.hid (At.mk hm0 (Nat.le_trans Ogr01.out.top hg.size) (Ow.lives _ _ _ _ _ _))
  replace Ogr03 := Lib.hid (At.mk hm1 (Nat.le_trans Ogr03.out.top hg.size) (Ow.lives _ _ _ _ _ _))
  clear c_Xgr0_0 c_Xgr0_1 c_Xgr0_2 c_Xgr0_3 c_Xgr0_4
  clear hg hm0 hm1
  have c_Xgr0_0 := Xgr0.out.now 0 _ rfl
  have c_Xgr0_1 := Xgr0.out.now 1 _ rfl
  have c_Xgr0_2 := Xgr0.out.now 2 _ rfl
  have c_Xgr0_3 := Xgr0.out.now 3 _ rfl
  have c_Xgr0_4 := Xgr0.out.now 4 _ rfl
  go_wp2_with fail
  refine (held_Trie hr0m1 hr0m3 Ogr01.out.orow Ogr03.out.orow (by omega) (by omega)).mono ?_; rintro e w12 ⟨rfl, hb⟩
  replace FB := Lib.hid (FB.out.b hb)
  replace Fa00 := Lib.hid (Fa00.out.b hb)
  replace Vmr01 := Lib.hid (Vmr01.out.b hb)
  replace Vmr03 := Lib.hid (Vmr03.out.b hb)
  replace Xmr0 := Lib.hid (Xmr0.out.b hb)
  replace Ogr01 := Lib.hid (Ogr01.out.b hb)
  replace Ogr03 := Lib.hid (Ogr03.out.b hb)
  replace Xgr0 := Lib.hid (Xgr0.out.b hb)
  have z_w12 : w11.heap.size ≤ w12.heap.size := by have hsz := hb.size; first | omega | (simp at hsz; omega)
  clear c_Xgr0_0 c_Xgr0_1 c_Xgr0_2 c_Xgr0_3 c_Xgr0_4
  clear hb
  go_wp2_with fail
  refine (to_StringSn ha0k0 Fa00.out.row).mono ?_; rintro e w13 ⟨tha0A0, rfl, ho0, hb⟩
  replace FB := Lib.hid (FB.out.b hb)
  replace Fa00 := Lib.hid (Fa00.out.b hb)
  replace Vmr01 := Lib.hid (Vmr01.out.b hb)
  replace Vmr03 := Lib.hid (Vmr03.out.b hb)
  replace Xmr0 := Lib.hid (Xmr0.out.b hb)
  replace Ogr01 := Lib.hid (Ogr01.out.b hb)
  replace Ogr03 := Lib.hid (Ogr03.out.b hb)
  replace Xgr0 := Lib.hid (Xgr0.out.b hb)
  have z_w13 : w12.heap.size ≤ w13.heap.size := by have hsz := hb.size; first | omega | (simp at hsz; omega)
  have Otha00 := Lib.hid (owned (ho0.mono (lo' := w12.heap.size) (Nat.le_refl _) (Nat.le_refl _)))
  clear hb ho0
  go_wp2_with fail
  refine (S2.out _ _ Otha00.out.orow).mono ?_; rintro e w14 ⟨hr0A1, hr0c1, hr0A3, hr0c3, rfl, hrr01, hrr03, hap_h_0, hb⟩
  replace FB := Lib.hid (FB.out.b hb)
  replace Fa00 := Lib.hid (Fa00.out.b hb)
  replace Vmr01 := Lib.hid (Vmr01.out.b hb)
  replace Vmr03 := Lib.hid (Vmr03.out.b hb)
  replace Xmr0 := Lib.hid (Xmr0.out.b hb)
  replace Ogr01 := Lib.hid (Ogr01.out.b hb)
  replace Ogr03 := Lib.hid (Ogr03.out.b hb)
  replace Xgr0 := Lib.hid (Xgr0.out.b hb)
  replace Otha00 := Lib.hid (Otha00.out.b hb)
  have z_w14 : w13.heap.size ≤ w14.heap.size := by have hsz := hb.size; first | omega | (simp at hsz; omega)
  have Ohr01 := Lib.hid (owned (hrr01.mono (lo' := w13.heap.size) (Nat.le_refl _) (Nat.le_refl _)))
  have Ohr03 := Lib.hid (owned (hrr03.mono (lo' := w13.heap.size) (Nat.le_refl _) (Nat.le_refl _)))
  clear hb hrr01 hrr03
  clear Otha00
  replace FB := Lib.hid (FB.out.alloc (.cells #[.int .i64 r0z0, .slice hr0A1 r0n1 hr0c1, .int .i64 r0z2, .slice hr0A3 r0n3 hr0c3, .string r0z4] 53))
  replace Fa00 := Lib.hid (Fa00.out.alloc (.cells #[.int .i64 r0z0, .slice hr0A1 r0n1 hr0c1, .int .i64 r0z2, .slice hr0A3 r0n3 hr0c3, .string r0z4] 53))
  replace Vmr01 := Lib.hid (Vmr01.out.alloc (.cells #[.int .i64 r0z0, .slice hr0A1 r0n1 hr0c1, .int .i64 r0z2, .slice hr0A3 r0n3 hr0c3, .string r0z4] 53))
  replace Vmr03 := Lib.hid (Vmr03.out.alloc (.cells #[.int .i64 r0z0, .slice hr0A1 r0n1 hr0c1, .int .i64 r0z2, .slice hr0A3 r0n3 hr0c3, .string r0z4] 53))
  replace Xmr0 := Lib.hid (Xmr0.out.alloc (.cells #[.int .i64 r0z0, .slice hr0A1 r0n1 hr0c1, .int .i64 r0z2, .slice hr0A3 r0n3 hr0c3, .string r0z4] 53))
  replace Ogr01 := Lib.hid (Ogr01.out.alloc (.cells #[.int .i64 r0z0, .slice hr0A1 r0n1 hr0c1, .int .i64 r0z2, .slice hr0A3 r0n3 hr0c3, .string r0z4] 53))
  replace Ogr03 := Lib.hid (Ogr03.out.alloc (.cells #[.int .i64 r0z0, .slice hr0A1 r0n1 hr0c1, .int .i64 r0z2, .slice hr0A3 r0n3 hr0c3, .string r0z4] 53))
  replace Xgr0 := Lib.hid (Xgr0.out.alloc (.cells #[.int .i64 r0z0, .slice hr0A1 r0n1 hr0c1, .int .i64 r0z2, .slice hr0A3 r0n3 hr0c3, .string r0z4] 53))
  replace Ohr01 := Lib.hid (Ohr01.out.alloc (.cells #[.int .i64 r0z0, .slice hr0A1 r0n1 hr0c1, .int .i64 r0z2, .slice hr0A3 r0n3 hr0c3, .string r0z4] 53))
  replace Ohr03 := Lib.hid (Ohr03.out.alloc (.cells #[.int .i64 r0z0, .slice hr0A1 r0n1 hr0c1, .int .i64 r0z2, .slice hr0A3 r0n3 hr0c3, .string r0z4] 53))
  have Xhr0 := Lib.hid (boxed w14 #[.int .i64 r0z0, .slice hr0A1 r0n1 hr0c1, .int .i64 r0z2, .slice hr0A3 r0n3 hr0c3, .string r0z4] 53)
  have c_Xhr0_0 := Xhr0.out.now 0 _ rfl
  have c_Xhr0_1 := Xhr0.out.now 1 _ rfl
  have c_Xhr0_2 := Xhr0.out.now 2 _ rfl
  have c_Xhr0_3 := Xhr0.out.now 3 _ rfl
  have c_Xhr0_4 := Xhr0.out.now 4 _ rfl
  have c_Xmr0_0 := Xmr0.out.now 0 _ rfl
  have c_Xmr0_1 := Xmr0.out.now 1 _ rfl
  have c_Xmr0_2 := Xmr0.out.now 2 _ rfl
  have c_Xmr0_3 := Xmr0.out.now 3 _ rfl
  have c_Xmr0_4 := Xmr0.out.now 4 _ rfl
  go_wp2_with fail
  refine (eq_Trie hr0m1 hr0m3 Ohr01.out.orow Ohr03.out.orow Vmr01.out.row Vmr03.out.row).mono ?_; rintro e w15 ⟨rfl, hb⟩
  replace FB := Lib.hid (FB.out.b hb)
  replace Fa00 := Lib.hid (Fa00.out.b hb)
  replace Vmr01 := Lib.hid (Vmr01.out.b hb)
  replace Vmr03 := Lib.hid (Vmr03.out.b hb)
  replace Xmr0 := Lib.hid (Xmr0.out.b hb)
  replace Ogr01 := Lib.hid (Ogr01.out.b hb)
  replace Ogr03 := Lib.hid (Ogr03.out.b hb)
  replace Xgr0 := Lib.hid (Xgr0.out.b hb)
  replace Ohr01 := Lib.hid (Ohr01.out.b hb)
  replace Ohr03 := Lib.hid (Ohr03.out.b hb)
  replace Xhr0 := Lib.hid (Xhr0.out.b hb)
  have z_w15 : w14.heap.size + 1 ≤ w15.heap.size := by have hsz := hb.size; first | omega | (simp at hsz; omega)
  clear c_Xhr0_0 c_Xhr0_1 c_Xhr0_2 c_Xhr0_3 c_Xhr0_4 c_Xmr0_0 c_Xmr0_1 c_Xmr0_2 c_Xmr0_3 c_Xmr0_4
  clear hb
  have c_Xgr0_0 := Xgr0.out.now 0 _ rfl
  have c_Xgr0_1 := Xgr0.out.now 1 _ rfl
  have c_Xgr0_2 := Xgr0.out.now 2 _ rfl
  have c_Xgr0_3 := Xgr0.out.now 3 _ rfl
  have c_Xgr0_4 := Xgr0.out.now 4 _ rfl
  go_wp2_with fail
  refine (held_Trie hr0m1 hr0m3 Ogr01.out.orow Ogr03.out.orow (by omega) (by omega)).mono ?_; rintro e w16 ⟨rfl, hb⟩
  replace FB := Lib.hid (FB.out.b hb)
  replace Fa00 := Lib.hid (Fa00.out.b hb)
  replace Vmr01 := Lib.hid (Vmr01.out.b hb)
  replace Vmr03 := Lib.hid (Vmr03.out.b hb)
  replace Xmr0 := Lib.hid (Xmr0.out.b hb)
  replace Ogr01 := Lib.hid (Ogr01.out.b hb)
  replace Ogr03 := Lib.hid (Ogr03.out.b hb)
  replace Xgr0 := Lib.hid (Xgr0.out.b hb)
  replace Ohr01 := Lib.hid (Ohr01.out.b hb)
  replace Ohr03 := Lib.hid (Ohr03.out.b hb)
  replace Xhr0 := Lib.hid (Xhr0.out.b hb)
  have z_w16 : w15.heap.size ≤ w16.heap.size := by have hsz := hb.size; first | omega | (simp at hsz; omega)
  clear c_Xgr0_0 c_Xgr0_1 c_Xgr0_2 c_Xgr0_3 c_Xgr0_4
  clear hb
  go_wp2_with fail
  go_ret
  exact ⟨rfl, FB.out.now⟩
/-! last -/
theorem walk_FnExactBuildTrie (w : World) (K : Option Addr) (k kc : Nat) (S : Nat → ByteArray) (hm : k ≤ maxLen) (hr : SRow w K k S) :
    Calls Try.prog 10 #[.slice K k kc] w fun e w' => e = .returned (.bool true) ∧ Below w.heap.size w w' := by
  cases h : keysB S k with
  | true =>
    have hk := keysB_size h
    have hl := ndUp_len (lsOf S k) 12
    rw [lsOf_len] at hl
    have h481 : (ndL (lsOf S k)).length ≤ 481 := by show (ndUp _ 12).length ≤ _; omega
    exact main_FnExactBuildTrie k S (2 * (ndL (lsOf S k)).length - 1 : Nat) ((2 * (ndL (lsOf S k)).length - 1 + 15) / 16) (wdB (shF (ndL (lsOf S k)))) (ndL (lsOf S k)).length (((ndL (lsOf S k)).length + 15) / 16) (wdB (enF (lsOf S k) (ndL (lsOf S k)))) (laS (ndL (lsOf S k))) true K kc w hm hr.grow hr.size (by omega) (by omega)
      (fun hn A w g => (spec_buildTrie rfl rfl h hr.size g).mono fun e w' h => h.row) (fun hn A w g => impl_buildTrie rfl rfl h (Nat.le_refl _) hr.size g)
  | false =>
    exact main_FnExactBuildTrie k S 0 0 (fun _ => 0) 0 0 (fun _ => 0) ⟨#[]⟩ false K kc w hm hr.grow hr.size (by omega) (by omega)
      (fun hn A w g => (spec_buildTrie_no h (by omega) hr.size g).mono fun e w' h => h.row) (fun hn A w g => (impl_buildTrie_no h (by omega) hr.size g).mono fun e w' h => h.ow)
end Go.Proofs.Ythaipemgndahfaa
