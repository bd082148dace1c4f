/- Type assertions on an interface value. -/
import Derived.Test.YtockhjdhihehlaaPlB
namespace Go.Proofs.Ytockhjdhihehlaa
open Go.RowKit

theorem run_typeInfo0 {t : TypeId} {i : TypeInfo} {W : World} (h : Try.prog.info? t = some i) : (typeInfo t).run Try.prog W = .ok i W := by
  unfold typeInfo
  simp [go_sem, h]
def notIface : TypeDesc → Bool
  | .interface _ => false
  | _ => true
theorem run_assert_yes {u x : TypeId} {v : Value} (hu : (Try.prog.underlying u).map notIface = some true) (W : World) :
    (Instr.typeAssert (.iface u v) x u true).run Try.prog W = .ok (.tuple #[v, .bool true]) W := by
  obtain ⟨d, hd, hn⟩ := Option.map_eq_some_iff.1 hu
  unfold Instr.typeAssert
  cases d <;> simp [go_sem, run_underlying hd, notIface] at hn ⊢
theorem run_assert_no {t u x : TypeId} {v z : Value} (hu : (Try.prog.underlying u).map notIface = some true) (hz : (Try.prog.info? u).map (fun i => i.zero) = some (some z)) (hne : t ≠ u) (W : World) :
    (Instr.typeAssert (.iface t v) x u true).run Try.prog W = .ok (.tuple #[z, .bool false]) W := by
  obtain ⟨d, hd, hn⟩ := Option.map_eq_some_iff.1 hu
  obtain ⟨i, hi, hzi⟩ := Option.map_eq_some_iff.1 hz
  have hzv : (zeroValue u).run Try.prog W = .ok z W := by
    unfold zeroValue
    simp [go_sem, run_typeInfo0 hi, hzi]
  unfold Instr.typeAssert
  cases d <;> simp [go_sem, run_underlying hd, notIface, hne, hzv] at hn ⊢
theorem niP : (Try.prog.underlying 30).map notIface = some true := by kernel_rfl
theorem niO : (Try.prog.underlying 48).map notIface = some true := by kernel_rfl
theorem zeP : (Try.prog.info? 30).map (fun i => i.zero) = some (some (.agg #[.int .i64 0, .int .i64 0, .slice none 0 0])) := by kernel_rfl
theorem zeO : (Try.prog.info? 48).map (fun i => i.zero) = some (some (.agg #[.int .i64 0, .int .i64 0, .int .i64 0, .slice none 0 0])) := by kernel_rfl
end Go.Proofs.Ytockhjdhihehlaa
