/-
  errors.Is where the target is one of two errors of errors.New's make, and the error is nil, the same one or the other one. No condition but that they lie where nothing is frozen.
-/
import Derived.Test.YtbcbdhjeebcleaaGreatDoorAns
import Derived.Stop.Asserts
set_option linter.unusedVariables false
set_option linter.unusedSimpArgs false
set_option maxRecDepth 100000
set_option maxHeartbeats 8000000
namespace Go.Proofs.YtbcbdhjeebcleaaGreatDoor.Gen
open RowKit Extern.Stop Stop Extern
theorem Qfa (v : Value) (w : World) : (callFunc 72 #[.iface 431 v]).run Tryz.prog w = .ok (.value (.iface 215 (.agg #[.pointer (some ⟨2, 431, none⟩)]))) w :=
 (@run_callFunc_extern Tryz.prog 72 _ Extern.ReflectliteType.typeOf Tryz.func72 (by kernel_rfl) (by kernel_rfl) (by kernel_rfl) (by kernel_rfl) #[.iface 431 v] w).trans (by kernel_rfl)
theorem Qcn (w : World) : (callFunc 313 #[.agg #[.pointer (some ⟨2, 431, none⟩)]]).run Tryz.prog w = .ok (.value (.bool true)) w :=
 (@run_callFunc_extern Tryz.prog 313 _ (Extern.ReflectliteType.method fun t => do Go.Extern.Rtype.noPackHeld "Comparable" t; pure (.bool (← typeInfo t).comparable)) Tryz.func313 (by kernel_rfl) (by kernel_rfl) (by kernel_rfl) (by kernel_rfl) #[.agg #[.pointer (some ⟨2, 431, none⟩)]] w).trans (by kernel_rfl)
theorem Qbw (v : Value) (w : World) : (Go.method 571 215 v "Comparable").run Tryz.prog w = .ok (313, v) w := by kernel_rfl
theorem isComp : (Tryz.prog.info? 431).map (·.comparable) = some true := by kernel_rfl
theorem isSize : (Tryz.prog.info? 459).map (·.size) = some 1 := by kernel_rfl
theorem noIsE (v : Value) (xT : TypeId) (w : World) : (Instr.typeAssert (.iface 431 v) xT 217 true).run Tryz.prog w = .ok (.tuple #[.nilIface, .bool false]) w := run_typeAssert_lacksB Tryz.underlying217 (by kernel_rfl) (by kernel_rfl) v xT w
theorem noUnwrapE (v : Value) (xT : TypeId) (w : World) : (Instr.typeAssert (.iface 431 v) xT 219 true).run Tryz.prog w = .ok (.tuple #[.nilIface, .bool false]) w := run_typeAssert_lacksB Tryz.underlying219 (by kernel_rfl) (by kernel_rfl) v xT w
theorem noUnwrapsE (v : Value) (xT : TypeId) (w : World) : (Instr.typeAssert (.iface 431 v) xT 221 true).run Tryz.prog w = .ok (.tuple #[.nilIface, .bool false]) w := run_typeAssert_lacksB Tryz.underlying221 (by kernel_rfl) (by kernel_rfl) v xT w
theorem is_nil (b : Addr) (w : World) :
 Calls Tryz.prog 45 #[.nilIface, .iface 431 (.pointer (some b))] w fun e w' => e = .returned (.bool false) /\ w' = w := by
 have hn := run_eql_iface_nil_left (P := Tryz.prog) w 431 (.pointer (some b)) Tryz.underlying73
 go_enter Tryz.func45, Tryz.ntmps45
 go_wp2
 go_ret
 exact ⟨rfl, rfl⟩
theorem is2_same (a : Addr) (w : World) :
 Calls Tryz.prog 73 #[.iface 431 (.pointer (some a)), .iface 431 (.pointer (some a)), .bool true] w fun e w' => e = .returned (.bool true) /\ w' = w := by
 obtain ⟨i, hi, hcmp⟩ := Option.map_eq_some_iff.1 isComp
 obtain ⟨j, hj, hjs⟩ := Option.map_eq_some_iff.1 isSize
 have heq := run_eql_iface_ptr_same (P := Tryz.prog) w a Tryz.underlying73 Tryz.underlying431 hi hcmp hj
 go_enter Tryz.func73, Tryz.ntmps73
 go_wp2
 refine wp_loop_rounds 1 ?_
 rw [rounds_succ]
 go_wp2
 go_ret
 exact ⟨rfl, rfl⟩
theorem is2_other (a b : Addr) (ca cb : Array Value) (ta tb : TypeId) (w : World) (hne : a ≠ b) (ha : w.heap[a.block]? = some (.cells ca ta (0, 0))) (hb : w.heap[b.block]? = some (.cells cb tb (0, 0))) :
 Calls Tryz.prog 73 #[.iface 431 (.pointer (some a)), .iface 431 (.pointer (some b)), .bool true] w fun e w' => e = .returned (.bool false) /\ w' = w := by
 obtain ⟨i, hi, hcmp⟩ := Option.map_eq_some_iff.1 isComp
 obtain ⟨j, hj, hjs⟩ := Option.map_eq_some_iff.1 isSize
 have nE := noIsE
 have uE := noUnwrapE
 have vE := noUnwrapsE
 have heq := run_eql_iface_ptr_other (P := Tryz.prog) w Tryz.underlying73 Tryz.underlying431 hi hcmp hj (by rw [hjs]; decide) hne ha hb
 go_enter Tryz.func73, Tryz.ntmps73
 go_wp2
 refine wp_loop_rounds 1 ?_
 rw [rounds_succ]
 go_wp2
 go_ret
 exact ⟨rfl, rfl⟩
theorem is_same (a : Addr) (w : World) :
 Calls Tryz.prog 45 #[.iface 431 (.pointer (some a)), .iface 431 (.pointer (some a))] w fun e w' => e = .returned (.bool true) /\ w' = w := by
 have h8 := Qfa
 have h32 := Qcn
 have mR := Qbw
 go_enter Tryz.func45, Tryz.ntmps45
 go_wp2_with fail
 refine (is2_same a _).mono ?_
 rintro e w1 ⟨rfl, hw⟩
 subst w1
 go_wp2
 go_ret
 exact ⟨rfl, rfl⟩
theorem is_other (a b : Addr) (ca cb : Array Value) (ta tb : TypeId) (w : World) (hne : a ≠ b) (ha : w.heap[a.block]? = some (.cells ca ta (0, 0))) (hb : w.heap[b.block]? = some (.cells cb tb (0, 0))) :
 Calls Tryz.prog 45 #[.iface 431 (.pointer (some a)), .iface 431 (.pointer (some b))] w fun e w' => e = .returned (.bool false) /\ w' = w := by
 have h8 := Qfa
 have h32 := Qcn
 have mR := Qbw
 go_enter Tryz.func45, Tryz.ntmps45
 go_wp2_with fail
 refine (is2_other a b ca cb ta tb _ hne ha hb).mono ?_
 rintro e w1 ⟨rfl, hw⟩
 subst w1
 go_wp2
 go_ret
 exact ⟨rfl, rfl⟩
end Go.Proofs.YtbcbdhjeebcleaaGreatDoor.Gen
