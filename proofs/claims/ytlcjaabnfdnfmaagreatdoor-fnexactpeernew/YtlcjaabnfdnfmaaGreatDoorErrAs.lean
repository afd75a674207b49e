/-
  What errors.As tells at an error that is nil, and at one of the very type that is asked for (a struct of one number): false and nothing turns; true, and the number is set. Condition: the library's variable errors.errorType holds the handle of the type error.
-/
import Derived.Test.YtlcjaabnfdnfmaaGreatDoorBase
import Derived.Stop.Asserts
set_option linter.unusedVariables false
set_option linter.unusedSimpArgs false
set_option maxRecDepth 100000
set_option maxHeartbeats 8000000
namespace Go.Proofs.YtlcjaabnfdnfmaaGreatDoor.Gen
open RowKit Extern.Stop Stop Extern
theorem Qjw (t : Addr) (w : World) : (ReflectliteValue.unpack (.iface 172 (.pointer (some t)))).run Tryz.prog w
 = .ok (.agg #[.pointer (some ⟨1, 172, none⟩), .pointer (some ⟨w.heap.size, 0, none⟩), .int .u64 150]) (w.alloc (.cells #[.pointer (some t)] 172)) := by kernel_rfl
theorem rl_typeP (a : Addr) (w : World) : (ReflectliteValue.methodAny (ReflectliteValue.valueError "reflectlite.Value.Type" 0) (fun t _ _ _ => ReflectliteType.toType t) #[.agg #[.pointer (some ⟨1, 172, none⟩), .pointer (some a), .int .u64 150]]).run Tryz.prog w
 = .ok (.iface 254 (.agg #[.pointer (some ⟨1, 172, none⟩)])) w := by kernel_rfl
theorem Qgw (h : Value) (w : World) : (Go.method 450 254 (.agg #[h]) "Kind").run Tryz.prog w = .ok (268, h) w := by kernel_rfl
theorem rl_kindP (w : World) : ((ReflectliteType.abiMethod fun t => (fun a : Nat => Value.int IntKind.u8 (a : Int)) <$> Rtype.kind t) #[.pointer (some ⟨1, 172, none⟩)]).run Tryz.prog w = .ok (.int .u8 22) w := by kernel_rfl
theorem rl_kindM (w : World) : ((ReflectliteType.abiMethod fun t => (fun a : Nat => Value.int IntKind.u8 (a : Int)) <$> Rtype.kind t) #[.pointer (some ⟨1, 166, none⟩)]).run Tryz.prog w = .ok (.int .u8 25) w := by kernel_rfl
theorem rl_m (z : Sem Value) (f : TypeId -> Addr -> Nat -> Nat -> Sem Value) (v : Value) :
 ReflectliteValue.method z f #[v] = (do match ← ReflectliteValue.parts v with | none => z | some (t, a, fl) => f t a fl (fl % 32)) := rfl
theorem Qh2 (a : Addr) (w : World) : (ReflectliteValue.parts (.agg #[.pointer (some ⟨1, 172, none⟩), .pointer (some a), .int .u64 150])).run Tryz.prog w = .ok (some (172, a, 150)) w := by kernel_rfl
theorem rl_isNilP (a p : Addr) (W : World) (ha : W.cell? a = some (.pointer (some p))) :
 (ReflectliteValue.method (ReflectliteValue.valueError "reflectlite.Value.IsNil" 0) ReflectliteValue.isNil #[.agg #[.pointer (some ⟨1, 172, none⟩), .pointer (some a), .int .u64 150]]).run Tryz.prog W = .ok (.bool false) W := by
 rw [rl_m]
 simp only [Sem.run_bind, Qh2, Result.andThen]
 simp [ReflectliteValue.isNil, loadVar, isAgg, underlying, Tryz.underlying172, ha, Result.andThen]
theorem Qgx (h : Value) (w : World) : (Go.method 450 254 (.agg #[h]) "Elem").run Tryz.prog w = .ok (285, .agg #[h]) w := by kernel_rfl
theorem Qdr (h : Value) (w : World) : (Go.method 450 254 (.agg #[h]) "Implements").run Tryz.prog w = .ok (286, .agg #[h]) w := by kernel_rfl
theorem Qc8 (h : Value) (w : World) : (Go.method 450 254 (.agg #[h]) "AssignableTo").run Tryz.prog w = .ok (283, .agg #[h]) w := by kernel_rfl
theorem rl_elemP (w : World) : (ReflectliteType.method ReflectliteType.elem #[.agg #[.pointer (some ⟨1, 172, none⟩)]]).run Tryz.prog w = .ok (.iface 254 (.agg #[.pointer (some ⟨1, 166, none⟩)])) w := by kernel_rfl
theorem Qft (w : World) : (ReflectliteType.relation "Implements" ReflectliteType.implements_ #[.agg #[.pointer (some ⟨1, 166, none⟩)], .iface 254 (.agg #[.pointer (some ⟨1, 168, none⟩)])]).run Tryz.prog w = .ok (.bool true) w := by kernel_rfl
theorem rl_typeOfM (v : Value) (w : World) : (ReflectliteType.typeOf #[.iface 166 v]).run Tryz.prog w = .ok (.iface 254 (.agg #[.pointer (some ⟨1, 166, none⟩)])) w := by kernel_rfl
theorem Qfu (w : World) : (ReflectliteType.relation "AssignableTo" ReflectliteType.assignableTo #[.agg #[.pointer (some ⟨1, 166, none⟩)], .iface 254 (.agg #[.pointer (some ⟨1, 166, none⟩)])]).run Tryz.prog w = .ok (.bool true) w := by kernel_rfl
theorem Qjx (i : Int) (w : World) : (ReflectliteValue.unpack (.iface 166 (.agg #[.int .i64 i]))).run Tryz.prog w
 = .ok (.agg #[.pointer (some ⟨1, 166, none⟩), .pointer (some ⟨w.heap.size, 0, none⟩), .int .u64 153]) (w.alloc (.cells #[.int .i64 i] 166)) := by kernel_rfl
theorem rl_elemOfP (w : World) : (Rtype.elem? 172).run Tryz.prog w = .ok (some 166) w := by kernel_rfl
theorem rl_mkM (p : Addr) (w : World) : (ReflectliteValue.mk 166 p ReflectliteValue.flagAddr).run Tryz.prog w = .ok (.agg #[.pointer (some ⟨1, 166, none⟩), .pointer (some p), .int .u64 409]) w := by kernel_rfl
theorem rl_elemVP (a p : Addr) (W : World) (ha : W.cell? a = some (.pointer (some p))) :
 (ReflectliteValue.method (ReflectliteValue.valueError "reflectlite.Value.Elem" 0) ReflectliteValue.elem #[.agg #[.pointer (some ⟨1, 172, none⟩), .pointer (some a), .int .u64 150]]).run Tryz.prog W
  = .ok (.agg #[.pointer (some ⟨1, 166, none⟩), .pointer (some p), .int .u64 409]) W := by
 rw [rl_m]
 simp only [Sem.run_bind, Qh2, Result.andThen]
 simp [ReflectliteValue.elem, loadVar, isAgg, underlying, Tryz.underlying172, ha, Result.andThen, rl_elemOfP, rl_mkM]
theorem rl_s (v x : Value) : ReflectliteValue.set #[v, x] = (do
 let (some (dst, a, fl), some (src, b, _)) := (← ReflectliteValue.parts v, ← ReflectliteValue.parts x)
  | unsupported (.noEntry "extern/(internal/reflectlite.Value).Set.zeroValue")
 if fl / ReflectliteValue.flagAddr % 2 == 0 then unsupported (.noEntry "extern/(internal/reflectlite.Value).Set.unaddressable")
 let val ← loadVar src b
 if ← Rtype.directlyAssignable dst src then storeVar dst a val
 else if ← Rtype.implements dst src then
  if (← Rtype.kind src) == 20 then
   match val with
   | .nilIface => unsupported (.noEntry "extern/reflectlite: a nil value of one interface type handed on as a value of another")
   | _ => storeVar dst a val
  else storeVar dst a (.iface src val)
 else panicString ("reflectlite.Set: value of type " ++ (← Rtype.spelt src) ++ " is not assignable to type " ++ (← Rtype.spelt dst))
 pure (.tuple #[])) := rfl
theorem rl_partsMa (a : Addr) (w : World) : (ReflectliteValue.parts (.agg #[.pointer (some ⟨1, 166, none⟩), .pointer (some a), .int .u64 409])).run Tryz.prog w = .ok (some (166, a, 409)) w := by kernel_rfl
theorem rl_partsM (a : Addr) (w : World) : (ReflectliteValue.parts (.agg #[.pointer (some ⟨1, 166, none⟩), .pointer (some a), .int .u64 153])).run Tryz.prog w = .ok (some (166, a, 153)) w := by kernel_rfl
theorem rl_directM (w : World) : (Rtype.directlyAssignable 166 166).run Tryz.prog w = .ok true w := by kernel_rfl
theorem rl_sizeM (w : World) : (sizeOf 166).run Tryz.prog w = .ok 1 w := by kernel_rfl
theorem rl_setM (tb bb : Nat) (i : Int) (old : Value) (W : World) (hb : W.cell? ⟨bb, 0, none⟩ = some (.int .i64 i)) (ht : W.cell? ⟨tb, 0, none⟩ = some old) (hf : W.frozen? ⟨tb, 0, none⟩ = false) :
 (ReflectliteValue.set #[.agg #[.pointer (some ⟨1, 166, none⟩), .pointer (some ⟨tb, 0, none⟩), .int .u64 409], .agg #[.pointer (some ⟨1, 166, none⟩), .pointer (some ⟨bb, 0, none⟩), .int .u64 153]]).run Tryz.prog W
  = .ok (.tuple #[]) (W.setCell ⟨tb, 0, none⟩ (.int .i64 i)) := by
 have hld : (loadCells ⟨bb, 0, none⟩ 1).run Tryz.prog W = .ok #[.int .i64 i] W := by
  have h := run_loadCells_list (P := Tryz.prog) W ⟨bb, 0, none⟩ [.int .i64 i] (fun j v hj => by
   have hj' : j < 1 := (List.getElem?_eq_some_iff.1 hj).1
   obtain rfl : j = 0 := by omega
   simp at hj
   subst hj
   exact hb)
  simpa using h
 rw [rl_s]
 simp only [Sem.run_bind, rl_partsMa, rl_partsM, Result.andThen]
 simp [ReflectliteValue.flagAddr, loadVar, isAgg, underlying, Tryz.underlying166, rl_sizeM, hld, Result.andThen, rl_directM, storeVar, Value.cells, storeCells, Addr.add]
 rw [run_store Tryz.prog W ⟨tb, 0, none⟩ _ _ (by rfl)]
 simp [ht, hf]
theorem as_hit (i : Int) (tb : Nat) (old : Value) (w : World) (hg : w.cell? ⟨0, 0, none⟩ = some (.iface 254 (.agg #[.pointer (some ⟨1, 168, none⟩)]))) (ht0 : w.cell? ⟨tb, 0, none⟩ = some old) (hf0 : w.frozen? ⟨tb, 0, none⟩ = false) :
 Calls Tryz.prog 130 #[.iface 166 (.agg #[.int .i64 i]), .iface 172 (.pointer (some ⟨tb, 0, none⟩))] w fun ev w' => ev = .returned (.bool true) /\ w' = ((((w.alloc (.cells #[.pointer (some ⟨tb, 0, none⟩)] 172)).alloc (.cells #[.pointer (some ⟨1, 172, none⟩), .pointer (some ⟨w.heap.size, 0, none⟩), .int .u64 150] 212)).alloc (.cells #[.pointer (some ⟨1, 172, none⟩), .pointer (some ⟨w.heap.size, 0, none⟩), .int .u64 150] 212)).alloc (.cells #[.int .i64 i] 166)).setCell ⟨tb, 0, none⟩ (.int .i64 i) := by
 have h6 := @run_callFunc_extern Tryz.prog 161 _ (fun args => ReflectliteValue.unpack (args.getD 0 (.tuple #[]))) Tryz.func161 (by kernel_rfl) (by kernel_rfl) (by kernel_rfl) (by kernel_rfl)
 have h7 := @run_callFunc_extern Tryz.prog 162 _ (ReflectliteValue.methodAny (ReflectliteValue.valueError "reflectlite.Value.Type" 0) (fun t _ _ _ => ReflectliteType.toType t)) Tryz.func162 (by kernel_rfl) (by kernel_rfl) (by kernel_rfl) (by kernel_rfl)
 have h8 := @run_callFunc_extern Tryz.prog 163 _ (ReflectliteValue.method (ReflectliteValue.valueError "reflectlite.Value.IsNil" 0) ReflectliteValue.isNil) Tryz.func163 (by kernel_rfl) (by kernel_rfl) (by kernel_rfl) (by kernel_rfl)
 have h27 := @run_callFunc_extern Tryz.prog 268 _ (ReflectliteType.abiMethod fun t => do pure (.int .u8 (← Rtype.kind t))) Tryz.func268 (by kernel_rfl) (by kernel_rfl) (by kernel_rfl) (by kernel_rfl)
 have h37 := @run_callFunc_extern Tryz.prog 285 _ (ReflectliteType.method ReflectliteType.elem) Tryz.func285 (by kernel_rfl) (by kernel_rfl) (by kernel_rfl) (by kernel_rfl)
 have h38 := @run_callFunc_extern Tryz.prog 286 _ (ReflectliteType.relation "Implements" ReflectliteType.implements_) Tryz.func286 (by kernel_rfl) (by kernel_rfl) (by kernel_rfl) (by kernel_rfl)
 have h10 := @run_callFunc_extern Tryz.prog 191 _ ReflectliteType.typeOf Tryz.func191 (by kernel_rfl) (by kernel_rfl) (by kernel_rfl) (by kernel_rfl)
 have h35 := @run_callFunc_extern Tryz.prog 283 _ (ReflectliteType.relation "AssignableTo" ReflectliteType.assignableTo) Tryz.func283 (by kernel_rfl) (by kernel_rfl) (by kernel_rfl) (by kernel_rfl)
 have h11 := @run_callFunc_extern Tryz.prog 192 _ (ReflectliteValue.method (ReflectliteValue.valueError "reflectlite.Value.Elem" 0) ReflectliteValue.elem) Tryz.func192 (by kernel_rfl) (by kernel_rfl) (by kernel_rfl) (by kernel_rfl)
 have h12 := @run_callFunc_extern Tryz.prog 193 _ ReflectliteValue.set Tryz.func193 (by kernel_rfl) (by kernel_rfl) (by kernel_rfl) (by kernel_rfl)
 have tO := rl_typeOfM
 have mA := Qc8
 have a25 := Qfu
 have v25 := Qjx
 have f6 := Qjw
 have f7 := rl_typeP
 have mK := Qgw
 have mE := Qgx
 have mI := Qdr
 have k27 := rl_kindP
 have k25 := rl_kindM
 have e27 := rl_elemP
 have i25 := Qft
 have n8 := rl_isNilP ⟨w.heap.size, 0, none⟩ ⟨tb, 0, none⟩ ((w.alloc (.cells #[.pointer (some ⟨tb, 0, none⟩)] 172)).alloc (.cells #[.pointer (some ⟨1, 172, none⟩), .pointer (some ⟨w.heap.size, 0, none⟩), .int .u64 150] 212)) (by simp)
 have hlt : 0 < w.heap.size := by
  rcases Nat.eq_zero_or_pos w.heap.size with h0 | h
  . simp [World.cell?, h0] at hg
  . exact h
 have hg2 : ((w.alloc (.cells #[.pointer (some ⟨tb, 0, none⟩)] 172)).alloc (.cells #[.pointer (some ⟨1, 172, none⟩), .pointer (some ⟨w.heap.size, 0, none⟩), .int .u64 150] 212)).cell? ⟨0, 0, none⟩ = some (.iface 254 (.agg #[.pointer (some ⟨1, 168, none⟩)])) := by
  rw [World.cell?_alloc_lt _ _ ⟨0, 0, none⟩ (by simp), World.cell?_alloc_lt _ _ ⟨0, 0, none⟩ hlt]; exact hg
 have htl : tb < w.heap.size := by
  rcases Nat.lt_or_ge tb w.heap.size with h | h
  . exact h
  . simp [World.cell?, Array.getElem?_eq_none h] at ht0
 have el := rl_elemVP ⟨w.heap.size, 0, none⟩ ⟨tb, 0, none⟩ (((w.alloc (.cells #[.pointer (some ⟨tb, 0, none⟩)] 172)).alloc (.cells #[.pointer (some ⟨1, 172, none⟩), .pointer (some ⟨w.heap.size, 0, none⟩), .int .u64 150] 212)).alloc (.cells #[.pointer (some ⟨1, 172, none⟩), .pointer (some ⟨w.heap.size, 0, none⟩), .int .u64 150] 212)) (by rw [World.cell?_alloc_lt _ _ ⟨w.heap.size, 0, none⟩ (by simp; omega)]; simp)
 have st := rl_setM tb (w.heap.size + 1 + 1 + 1) i old ((((w.alloc (.cells #[.pointer (some ⟨tb, 0, none⟩)] 172)).alloc (.cells #[.pointer (some ⟨1, 172, none⟩), .pointer (some ⟨w.heap.size, 0, none⟩), .int .u64 150] 212)).alloc (.cells #[.pointer (some ⟨1, 172, none⟩), .pointer (some ⟨w.heap.size, 0, none⟩), .int .u64 150] 212)).alloc (.cells #[.int .i64 i] 166))
  (by rw [World.cell?_alloc_at _ _ _ _ (by simp)]; rfl)
  (by rw [World.cell?_alloc_lt _ _ ⟨tb, 0, none⟩ (by simp; omega), World.cell?_alloc_lt _ _ ⟨tb, 0, none⟩ (by simp; omega), World.cell?_alloc_lt _ _ ⟨tb, 0, none⟩ (by simp; omega), World.cell?_alloc_lt _ _ ⟨tb, 0, none⟩ htl]; exact ht0)
  (by rw [World.frozen?_alloc_old _ _ ⟨tb, 0, none⟩ (by simp; omega), World.frozen?_alloc_old _ _ ⟨tb, 0, none⟩ (by simp; omega), World.frozen?_alloc_old _ _ ⟨tb, 0, none⟩ (by simp; omega), World.frozen?_alloc_old _ _ ⟨tb, 0, none⟩ (Nat.ne_of_lt htl)]; exact hf0)
 go_enter Tryz.func130, Tryz.ntmps130
 go_wp2
 refine wp_loop_rounds 1 ?_
 rw [rounds_succ]
 go_wp2
 go_ret
 exact ⟨rfl, rfl⟩
end Go.Proofs.YtlcjaabnfdnfmaaGreatDoor.Gen
