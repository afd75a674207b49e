/-
  What errors.As tells at an error that is nil, and at one of the very type that is asked for (a struct of one number): false and nothing turns; true, and the number is set. Condition: the library's variable errors.errorType holds the handle of the type error.
-/
import Derived.Test.YtglegpkcikacoaaGreatDoorAns
import Derived.Stop.Asserts
set_option linter.unusedVariables false
set_option linter.unusedSimpArgs false
set_option maxRecDepth 100000
set_option maxHeartbeats 8000000
namespace Go.Proofs.YtglegpkcikacoaaGreatDoor.Gen
open RowKit Extern.Stop Stop Extern
theorem Qjw (t : Addr) (w : World) : (ReflectliteValue.unpack (.iface 172 (.pointer (some t)))).run Tryz.prog w
 = .ok (.agg #[.pointer (some ⟨1, 172, none⟩), .pointer (some ⟨w.heap.size, 0, none⟩), .int .u64 150]) (w.alloc (.cells #[.pointer (some t)] 172)) := by kernel_rfl
theorem rl_typeP (a : Addr) (w : World) : (ReflectliteValue.methodAny (ReflectliteValue.valueError "reflectlite.Value.Type" 0) (fun t _ _ _ => ReflectliteType.toType t) #[.agg #[.pointer (some ⟨1, 172, none⟩), .pointer (some a), .int .u64 150]]).run Tryz.prog w
 = .ok (.iface 254 (.agg #[.pointer (some ⟨1, 172, none⟩)])) w := by kernel_rfl
theorem Qgw (h : Value) (w : World) : (Go.method 450 254 (.agg #[h]) "Kind").run Tryz.prog w = .ok (268, h) w := by kernel_rfl
theorem rl_kindP (w : World) : ((ReflectliteType.abiMethod fun t => (fun a : Nat => Value.int IntKind.u8 (a : Int)) <$> Rtype.kind t) #[.pointer (some ⟨1, 172, none⟩)]).run Tryz.prog w = .ok (.int .u8 22) w := by kernel_rfl
theorem rl_kindM (w : World) : ((ReflectliteType.abiMethod fun t => (fun a : Nat => Value.int IntKind.u8 (a : Int)) <$> Rtype.kind t) #[.pointer (some ⟨1, 166, none⟩)]).run Tryz.prog w = .ok (.int .u8 25) w := by kernel_rfl
theorem rl_m (z : Sem Value) (f : TypeId -> Addr -> Nat -> Nat -> Sem Value) (v : Value) :
 ReflectliteValue.method z f #[v] = (do match ← ReflectliteValue.parts v with | none => z | some (t, a, fl) => f t a fl (fl % 32)) := rfl
theorem Qh2 (a : Addr) (w : World) : (ReflectliteValue.parts (.agg #[.pointer (some ⟨1, 172, none⟩), .pointer (some a), .int .u64 150])).run Tryz.prog w = .ok (some (172, a, 150)) w := by kernel_rfl
theorem rl_isNilP (a p : Addr) (W : World) (ha : W.cell? a = some (.pointer (some p))) :
 (ReflectliteValue.method (ReflectliteValue.valueError "reflectlite.Value.IsNil" 0) ReflectliteValue.isNil #[.agg #[.pointer (some ⟨1, 172, none⟩), .pointer (some a), .int .u64 150]]).run Tryz.prog W = .ok (.bool false) W := by
 rw [rl_m]
 simp only [Sem.run_bind, Qh2, Result.andThen]
 simp [ReflectliteValue.isNil, loadVar, isAgg, underlying, Tryz.underlying172, ha, Result.andThen]
theorem Qgx (h : Value) (w : World) : (Go.method 450 254 (.agg #[h]) "Elem").run Tryz.prog w = .ok (285, .agg #[h]) w := by kernel_rfl
theorem Qdr (h : Value) (w : World) : (Go.method 450 254 (.agg #[h]) "Implements").run Tryz.prog w = .ok (286, .agg #[h]) w := by kernel_rfl
theorem Qc8 (h : Value) (w : World) : (Go.method 450 254 (.agg #[h]) "AssignableTo").run Tryz.prog w = .ok (283, .agg #[h]) w := by kernel_rfl
theorem rl_elemP (w : World) : (ReflectliteType.method ReflectliteType.elem #[.agg #[.pointer (some ⟨1, 172, none⟩)]]).run Tryz.prog w = .ok (.iface 254 (.agg #[.pointer (some ⟨1, 166, none⟩)])) w := by kernel_rfl
theorem Qft (w : World) : (ReflectliteType.relation "Implements" ReflectliteType.implements_ #[.agg #[.pointer (some ⟨1, 166, none⟩)], .iface 254 (.agg #[.pointer (some ⟨1, 168, none⟩)])]).run Tryz.prog w = .ok (.bool true) w := by kernel_rfl
theorem rl_typeOfM (v : Value) (w : World) : (ReflectliteType.typeOf #[.iface 166 v]).run Tryz.prog w = .ok (.iface 254 (.agg #[.pointer (some ⟨1, 166, none⟩)])) w := by kernel_rfl
theorem Qfu (w : World) : (ReflectliteType.relation "AssignableTo" ReflectliteType.assignableTo #[.agg #[.pointer (some ⟨1, 166, none⟩)], .iface 254 (.agg #[.pointer (some ⟨1, 166, none⟩)])]).run Tryz.prog w = .ok (.bool true) w := by kernel_rfl
theorem Qjx (i : Int) (w : World) : (ReflectliteValue.unpack (.iface 166 (.agg #[.int .i64 i]))).run Tryz.prog w
 = .ok (.agg #[.pointer (some ⟨1, 166, none⟩), .pointer (some ⟨w.heap.size, 0, none⟩), .int .u64 153]) (w.alloc (.cells #[.int .i64 i] 166)) := by kernel_rfl
theorem rl_elemOfP (w : World) : (Rtype.elem? 172).run Tryz.prog w = .ok (some 166) w := by kernel_rfl
theorem rl_mkM (p : Addr) (w : World) : (ReflectliteValue.mk 166 p ReflectliteValue.flagAddr).run Tryz.prog w = .ok (.agg #[.pointer (some ⟨1, 166, none⟩), .pointer (some p), .int .u64 409]) w := by kernel_rfl
theorem rl_elemVP (a p : Addr) (W : World) (ha : W.cell? a = some (.pointer (some p))) :
 (ReflectliteValue.method (ReflectliteValue.valueError "reflectlite.Value.Elem" 0) ReflectliteValue.elem #[.agg #[.pointer (some ⟨1, 172, none⟩), .pointer (some a), .int .u64 150]]).run Tryz.prog W
  = .ok (.agg #[.pointer (some ⟨1, 166, none⟩), .pointer (some p), .int .u64 409]) W := by
 rw [rl_m]
 simp only [Sem.run_bind, Qh2, Result.andThen]
 simp [ReflectliteValue.elem, loadVar, isAgg, underlying, Tryz.underlying172, ha, Result.andThen, rl_elemOfP, rl_mkM]
theorem rl_s (v x : Value) : ReflectliteValue.set #[v, x] = (do
 let (some (dst, a, fl), some (src, b, _)) := (← ReflectliteValue.parts v, ← ReflectliteValue.parts x)
  | unsupported (.noEntry "extern/(internal/reflectlite.Value).Set.zeroValue")
 if fl / ReflectliteValue.flagAddr % 2 == 0 then unsupported (.noEntry "extern/(internal/reflectlite.Value).Set.unaddressable")
 let val ← loadVar src b
 if ← Rtype.directlyAssignable dst src then storeVar dst a val
 else if ← Rtype.implements dst src then
  if (← Rtype.kind src) == 20 then
   match val with
   | .nilIface => unsupported (.noEntry "extern/reflectlite: a nil value of one interface type handed on as a value of another")
   | _ => storeVar dst a val
  else storeVar dst a (.iface src val)
 else panicString ("reflectlite.Set: value of type " ++ (← Rtype.spelt src) ++ " is not assignable to type " ++ (← Rtype.spelt dst))
 pure (.tuple #[])) := rfl
theorem rl_partsMa (a : Addr) (w : World) : (ReflectliteValue.parts (.agg #[.pointer (some ⟨1, 166, none⟩), .pointer (some a), .int .u64 409])).run Tryz.prog w = .ok (some (166, a, 409)) w := by kernel_rfl
theorem rl_partsM (a : Addr) (w : World) : (ReflectliteValue.parts (.agg #[.pointer (some ⟨1, 166, none⟩), .pointer (some a), .int .u64 153])).run Tryz.prog w = .ok (some (166, a, 153)) w := by kernel_rfl
theorem rl_directM (w : World) : (Rtype.directlyAssignable 166 166).run Tryz.prog w = .ok true w := by kernel_rfl
theorem rl_sizeM (w : World) : (sizeOf 166).run Tryz.prog w = .ok 1 w := by kernel_rfl
theorem rl_setM (tb bb : Nat) (i : Int) (old : Value) (W : World) (hb : W.cell? ⟨bb, 0, none⟩ = some (.int .i64 i)) (ht : W.cell? ⟨tb, 0, none⟩ = some old) (hf : W.frozen? ⟨tb, 0, none⟩ = false) :
 (ReflectliteValue.set #[.agg #[.pointer (some ⟨1, 166, none⟩), .pointer (some ⟨tb, 0, none⟩), .int .u64 409], .agg #[.pointer (some ⟨1, 166, none⟩), .pointer (some ⟨bb, 0, none⟩), .int .u64 153]]).run Tryz.prog W
  = .ok (.tuple #[]) (W.setCell ⟨tb, 0, none⟩ (.int .i64 i)) := by
 have hld : (loadCells ⟨bb, 0, none⟩ 1).run Tryz.prog W = .ok #[.int .i64 i] W := by
  have h := run_loadCells_list (P := Tryz.prog) W ⟨bb, 0, none⟩ [.int .i64 i] (fun j v hj => by
   have hj' : j < 1 := (List.getElem?_eq_some_iff.1 hj).1
   obtain rfl : j = 0 := by omega
   simp at hj
   subst hj
   exact hb)
  simpa using h
 rw [rl_s]
 simp only [Sem.run_bind, rl_partsMa, rl_partsM, Result.andThen]
 simp [ReflectliteValue.flagAddr, loadVar, isAgg, underlying, Tryz.underlying166, rl_sizeM, hld, Result.andThen, rl_directM, storeVar, Value.cells, storeCells, Addr.add]
 rw [run_store Tryz.prog W ⟨tb, 0, none⟩ _ _ (by rfl)]
 simp [ht, hf]
theorem as_hit (i : Int) (tb : Nat) (old : Value) (w : World) (hg : w.cell? ⟨0, 0, none⟩ = some (.iface 254 (.agg #[.pointer (some ⟨1, 168, none⟩)]))) (ht0 : w.cell? ⟨tb, 0, none⟩ = some old) (hf0 : w.frozen? ⟨tb, 0, none⟩ = false) :
 Calls Tryz.prog 130 #[.iface 166 (.agg #[.int .i64 i]), .iface 172 (.pointer (some ⟨tb, 0, none⟩))] w fun ev w' => ev = .returned (.bool true) /\ w' = ((((w.alloc (.cells #[.pointer (some ⟨tb, 0, none⟩)] 172)).alloc (.cells #[.pointer (some ⟨1, 172, none⟩), .pointer (some ⟨w.heap.size, 0, none⟩), .int .u64 150] 212)).alloc (.cells #[.pointer (some ⟨1, 172, none⟩), .pointer (some ⟨w.heap.size, 0, none⟩), .int .u64 150] 212)).alloc (.cells #[.int .i64 i] 166)).setCell ⟨tb, 0, none⟩ (.int .i64 i) := by
 have h6 := @run_callFunc_extern Tryz.prog 161 _ (fun args => ReflectliteValue.unpack (args.getD 0 (.tuple #[]))) Tryz.func161 (by kernel_rfl) (by kernel_rfl) (by kernel_rfl) (by kernel_rfl)
 have h7 := @run_callFunc_extern Tryz.prog 162 _ (ReflectliteValue.methodAny (ReflectliteValue.valueError "reflectlite.Value.Type" 0) (fun t _ _ _ => ReflectliteType.toType t)) Tryz.func162 (by kernel_rfl) (by kernel_rfl) (by kernel_rfl) (by kernel_rfl)
 have h8 := @run_callFunc_extern Tryz.prog 163 _ (ReflectliteValue.method (ReflectliteValue.valueError "reflectlite.Value.IsNil" 0) ReflectliteValue.isNil) Tryz.func163 (by kernel_rfl) (by kernel_rfl) (by kernel_rfl) (by kernel_rfl)
 have h27 := @run_callFunc_extern Tryz.prog 268 _ (ReflectliteType.abiMethod fun t => do pure (.int .u8 (← Rtype.kind t))) Tryz.func268 (by kernel_rfl) (by kernel_rfl) (by kernel_rfl) (by kernel_rfl)
 have h37 := @run_callFunc_extern Tryz.prog 285 _ (ReflectliteType.method ReflectliteType.elem) Tryz.func285 (by kernel_rfl) (by kernel_rfl) (by kernel_rfl) (by kernel_rfl)
 have h38 := @run_callFunc_extern Tryz.prog 286 _ (ReflectliteType.relation "Implements" ReflectliteType.implements_) Tryz.func286 (by kernel_rfl) (by kernel_rfl) (by kernel_rfl) (by kernel_rfl)
 have h10 := @run_callFunc_extern Tryz.prog 191 _ ReflectliteType.typeOf Tryz.func191 (by kernel_rfl) (by kernel_rfl) (by kernel_rfl) (by kernel_rfl)
 have h35 := @run_callFunc_extern Tryz.prog 283 _ (ReflectliteType.relation "AssignableTo" ReflectliteType.assignableTo) Tryz.func283 (by kernel_rfl) (by kernel_rfl) (by kernel_rfl) (by kernel_rfl)
 have h11 := @run_callFunc_extern Tryz.prog 192 _ (ReflectliteValue.method (ReflectliteValue.valueError "reflectlite.Value.Elem" 0) ReflectliteValue.elem) Tryz.func192 (by kernel_rfl) (by kernel_rfl) (by kernel_rfl) (by kernel_rfl)
 have h12 := @run_callFunc_extern Tryz.prog 193 _ ReflectliteValue.set Tryz.func193 (by kernel_rfl) (by kernel_rfl) (by kernel_rfl) (by kernel_rfl)
 have tO := rl_typeOfM
 have mA := Qc8
 have a25 := Qfu
 have v25 := Qjx
 have f6 := Qjw
 have f7 := rl_typeP
 have mK := Qgw
 have mE := Qgx
 have mI := Qdr
 have k27 := rl_kindP
 have k25 := rl_kindM
 have e27 := rl_elemP
 have i25 := Qft
 have n8 := rl_isNilP ⟨w.heap.size, 0, none⟩ ⟨tb, 0, none⟩ ((w.alloc (.cells #[.pointer (some ⟨tb, 0, none⟩)] 172)).alloc (.cells #[.pointer (some ⟨1, 172, none⟩), .pointer (some ⟨w.heap.size, 0, none⟩), .int .u64 150] 212)) (by simp)
 have hlt : 0 < w.heap.size := by
  rcases Nat.eq_zero_or_pos w.heap.size with h0 | h
  . simp [World.cell?, h0] at hg
  . exact h
 have hg2 : ((w.alloc (.cells #[.pointer (some ⟨tb, 0, none⟩)] 172)).alloc (.cells #[.pointer (some ⟨1, 172, none⟩), .pointer (some ⟨w.heap.size, 0, none⟩), .int .u64 150] 212)).cell? ⟨0, 0, none⟩ = some (.iface 254 (.agg #[.pointer (some ⟨1, 168, none⟩)])) := by
  rw [World.cell?_alloc_lt _ _ ⟨0, 0, none⟩ (by simp), World.cell?_alloc_lt _ _ ⟨0, 0, none⟩ hlt]; exact hg
 have htl : tb < w.heap.size := by
  rcases Nat.lt_or_ge tb w.heap.size with h | h
  . exact h
  . simp [World.cell?, Array.getElem?_eq_none h] at ht0
 have el := rl_elemVP ⟨w.heap.size, 0, none⟩ ⟨tb, 0, none⟩ (((w.alloc (.cells #[.pointer (some ⟨tb, 0, none⟩)] 172)).alloc (.cells #[.pointer (some ⟨1, 172, none⟩), .pointer (some ⟨w.heap.size, 0, none⟩), .int .u64 150] 212)).alloc (.cells #[.pointer (some ⟨1, 172, none⟩), .pointer (some ⟨w.heap.size, 0, none⟩), .int .u64 150] 212)) (by rw [World.cell?_alloc_lt _ _ ⟨w.heap.size, 0, none⟩ (by simp; omega)]; simp)
 have st := rl_setM tb (w.heap.size + 1 + 1 + 1) i old ((((w.alloc (.cells #[.pointer (some ⟨tb, 0, none⟩)] 172)).alloc (.cells #[.pointer (some ⟨1, 172, none⟩), .pointer (some ⟨w.heap.size, 0, none⟩), .int .u64 150] 212)).alloc (.cells #[.pointer (some ⟨1, 172, none⟩), .pointer (some ⟨w.heap.size, 0, none⟩), .int .u64 150] 212)).alloc (.cells #[.int .i64 i] 166))
  (by rw [World.cell?_alloc_at _ _ _ _ (by simp)]; rfl)
  (by rw [World.cell?_alloc_lt _ _ ⟨tb, 0, none⟩ (by simp; omega), World.cell?_alloc_lt _ _ ⟨tb, 0, none⟩ (by simp; omega), World.cell?_alloc_lt _ _ ⟨tb, 0, none⟩ (by simp; omega), World.cell?_alloc_lt _ _ ⟨tb, 0, none⟩ htl]; exact ht0)
  (by rw [World.frozen?_alloc_old _ _ ⟨tb, 0, none⟩ (by simp; omega), World.frozen?_alloc_old _ _ ⟨tb, 0, none⟩ (by simp; omega), World.frozen?_alloc_old _ _ ⟨tb, 0, none⟩ (by simp; omega), World.frozen?_alloc_old _ _ ⟨tb, 0, none⟩ (Nat.ne_of_lt htl)]; exact hf0)
 go_enter Tryz.func130, Tryz.ntmps130
 go_wp2
 refine wp_loop_rounds 1 ?_
 rw [rounds_succ]
 go_wp2
 go_ret
 exact ⟨rfl, rfl⟩
open ChangeShapes WideShapes ChangeAt Joins Deep Base
theorem Qdw {α : Type} [Cel α] {B : Nat} {W : World} {t : TypeId} {a : Option Addr} {c : Nat} {xs : List α} (h : W.ownsRow B t (Cel.k α) (.slice a xs.length c) xs.length (flat xs)) : Sub W a xs (fun b => B <= b /\ b < W.heap.size) := by
 obtain ⟨a', c', e, _, hs⟩ := Qdh h
 cases e
 exact hs.imp id fun ⟨b, o, e, hB, hb, hi, ht⟩ => ⟨b, o, e, ⟨hB, hb⟩, hb, hi, ht⟩
structure GU {α : Type} [Cel α] (P : World -> α -> (Nat -> Prop) -> Prop) (t : TypeId) (b B : Nat) (W : World) (a : Option Addr) (cp : Nat) (xs : List α) : Prop where
  own : W.ownsRow B t (Cel.k α) (.slice a xs.length cp) xs.length (flat xs)
  fps : ∃ fp : Nat -> Nat -> Prop, (∀ (i : Nat) (h : i < xs.length), P W xs[i] (fp i)) /\ (∀ i j, i ≠ j -> ∀ x, fp i x -> ¬ fp j x) /\ ∀ i x, fp i x -> i < xs.length /\ B <= x /\ x < W.heap.size /\ (Value.slice a xs.length cp).ownBlock ≠ some x
  hb : b <= B
  hB : B <= W.heap.size
section
variable {α : Type} [Cel α] {P : World -> α -> (Nat -> Prop) -> Prop} {t : TypeId} {b B : Nat} {W W1 : World} {a : Option Addr} {cp : Nat} {xs : List α}
theorem GU.start (hb : b <= B) (hB : B <= W.heap.size) : GU (α := α) P t b B W none 0 [] :=
 ⟨World.ownsRow_nil _ _ _ _, ⟨fun _ _ => False, fun i h => by simp at h, fun _ _ _ _ h => h.elim, fun _ _ h => h.elim⟩, hb, hB⟩
theorem GU.offp (hP : Firm P) (h : GU P t b B W a cp xs) {T : Nat -> Prop} (k : Offp T W W1) (hT : ∀ x, T x -> x < b) : GU P t b B W1 a cp xs := by
 obtain ⟨own, ⟨fp, f1, f2, f3⟩, hb, hB⟩ := h
 exact ⟨Qct own k (fun y hy e => by have := (own.lt y hy).1; have := hT y e; omega), ⟨fp, fun i hi => hP _ _ _ _ _ (f1 i hi) k (fun y hy e => by have := (f3 i y hy).2.1; have := hT y e; omega), f2, fun i x hx => ⟨(f3 i x hx).1, (f3 i x hx).2.1, Nat.lt_of_lt_of_le (f3 i x hx).2.2.1 k.size, (f3 i x hx).2.2.2⟩⟩, hb, Nat.le_trans hB k.size⟩
theorem GU.app (hP : Firm P) {pg : Program} {ts : TypeId} {z : Value} {bytes : Nat} (hu : pg.underlying ts = some (.slice t)) (hinfo : (pg.info? t).map (fun i => (i.zero, i.size, i.bytes)) = some (some z, Cel.k α, bytes)) (hz : z.cells.size = Cel.k α) (hk : 0 < Cel.k α) (hby : bytes <= 1000)
 (h : GU P t b B W a cp xs) {T : Nat -> Prop} (k : Offp T W W1) (hT : ∀ x, T x -> x < b) (x : α) {S : Nat -> Prop} (hy : P W1 x S) (hS : ∀ y, S y -> W.heap.size <= y /\ y < W1.heap.size) (cs : Array Value) (hcs : cs.toList = Cel.cs x) (hx : xs.length <= 2000000) :
 ∃ a2 c2 W2, (Builtin.append_ #[ts, ts] ts #[.slice a xs.length cp, .slice (some ⟨W1.heap.size, 0, none⟩) 1 1]).run pg (W1.alloc (.cells cs t)) = .ok (.slice a2 (xs.length + 1) c2) W2 /\ GU P t b B W2 a2 c2 (xs ++ [x]) /\ Offp (fun y => B <= y) (W1.alloc (.cells cs t)) W2 := by
 have h0 := h.offp hP k hT
 have hws := k.size
 have hown0 := h.own
 have hBW := h.hB
 have hfp0 := h.fps
 obtain ⟨own0, ⟨fp, f1, f2, f3'⟩, hb, hB⟩ := h0
 have f3 : ∀ i x, fp i x -> i < xs.length /\ B <= x /\ x < W1.heap.size /\ (Value.slice a xs.length cp).ownBlock ≠ some x := f3'
 have own1 := Qca own0 (.cells cs t)
 have hX : At (W1.alloc (.cells cs t)) (some ⟨W1.heap.size, 0, none⟩) [x] := by
  refine .inr ⟨_, 0, rfl, by simp, fun j u hu => ?_⟩
  rw [Qbp, ← hcs] at hu
  rw [Nat.zero_add]
  exact (Blk.new W1 t cs).cell (by simpa using hu)
 obtain ⟨v', W2, hr, hown, hgrow, hob⟩ := Qbm (P := pg) hu hinfo hz hk hby B (.slice a xs.length cp) xs [x] (some ⟨W1.heap.size, 0, none⟩) 1 _ (by simp; omega) own1 hX (by simp; omega)
 simp only [List.length_cons, List.length_nil, Nat.zero_add] at hown hr
 obtain ⟨a2, c2, rfl, _⟩ := Qa5 hown
 have ko := Qcc hgrow
 have hs2 : W1.heap.size + 1 <= W2.heap.size := by have := ko.size; simpa using this
 have hS' : ∀ y, (Value.slice a xs.length cp).ownBlock = some y -> B <= y /\ y < W.heap.size := fun y hy => hown0.lt y hy
 have kb : Offp (fun _ => False) W1 (W1.alloc (.cells cs t)) := Offp.of_below (Qaa (Below.refl _ _) _)
 obtain ⟨fq, q1, q2, q3⟩ := hfp0
 refine ⟨a2, c2, W2, hr, ⟨by rw [List.length_append]; exact hown, ⟨fun i => if i = xs.length then S else fq i, ?_, ?_, ?_⟩, hb, by omega⟩, ko.mono (fun y e => (hS' y e).1)⟩
 . intro i hi
   by_cases e : i = xs.length
   . subst e
     simp only [if_true]
     rw [List.getElem_append_right (Nat.le_refl _)]
     simp only [Nat.sub_self, List.getElem_cons_zero]
     exact hP _ _ _ _ _ (hP _ _ _ _ _ hy kb (fun _ _ e => e)) ko (fun y hy e => by have := (hS y hy).1; have := (hS' y e).2; omega)
   . have hi' : i < xs.length := by simp at hi; omega
     simp only [if_neg e]
     rw [List.getElem_append_left hi']
     exact hP _ _ _ _ _ (hP _ _ _ _ _ (hP _ _ _ _ _ (q1 i hi') k (fun y hy e => by have := (q3 i y hy).2.1; have := hT y e; omega)) kb (fun _ _ e => e)) ko (fun y hy e => (q3 i y hy).2.2.2 e)
 . intro i j hij y hy' hy2
   by_cases e1 : i = xs.length
   . by_cases e2 : j = xs.length
     . omega
     . simp only [if_pos e1] at hy'
       simp only [if_neg e2] at hy2
       have := (hS y hy').1
       have := (q3 j y hy2).2.2.1
       omega
   . by_cases e2 : j = xs.length
     . simp only [if_neg e1] at hy'
       simp only [if_pos e2] at hy2
       have := (hS y hy2).1
       have := (q3 i y hy').2.2.1
       omega
     . simp only [if_neg e1] at hy'
       simp only [if_neg e2] at hy2
       exact q2 i j hij y hy' hy2
 . intro i y hy'
   have hob' : ∀ y, (Value.slice a xs.length cp).ownBlock ≠ some y -> y < W1.heap.size -> (Value.slice a2 (xs ++ [x]).length c2).ownBlock ≠ some y := by
    intro y hn hlt e
    rw [List.length_append] at e
    have e2 : (Value.slice a2 (xs.length + 1) c2).ownBlock = some y := e
    rcases hob with h' | h'
    . exact hn (h' ▸ e2)
    . rw [h'] at e2
      simp only [World.size_alloc, Option.some.injEq] at e2
      omega
   by_cases e1 : i = xs.length
   . simp only [if_pos e1] at hy'
     have hh := hS y hy'
     exact ⟨by simp; omega, by have := hown0; omega, by omega, hob' y (fun e => by have := (hS' y e).2; omega) hh.2⟩
   . simp only [if_neg e1] at hy'
     have hh := q3 i y hy'
     exact ⟨by simp; omega, hh.2.1, by omega, hob' y hh.2.2.2 (by omega)⟩
theorem GU.toOwn (h : GU P t b B W a cp xs) : Own P W a xs (fun b => B <= b /\ b < W.heap.size) := by
 obtain ⟨own, ⟨fp, f1, f2, f3⟩, hb, hB⟩ := h
 rcases Qdw own with e | ⟨b, o, e, hb, hlt, hi, ht⟩
 . exact .inl e
 . refine .inr ⟨b, o, fp, e, hb, fun i x hx => ⟨(f3 i x hx).2.1, (f3 i x hx).2.2.1⟩, ⟨hlt, hi, ht, f1, f2, fun i hx => (f3 i b hx).2.2.2 ?_⟩⟩
   rw [e]
   rfl
end
end Go.Proofs.YtglegpkcikacoaaGreatDoor.Gen
