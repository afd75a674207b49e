/-
  The program's member sets at this seat: emptied, and some dropped. No condition but that there are at most 1048576.
-/
import Derived.Test.YtllmaiefjgfpmaaGrpMem
import Derived.Test.YtllmaiefjgfpmaaFps
import Derived.Test.YtllmaiefjgfpmaaTillOp
namespace Go.Proofs.Ytllmaiefjgfpmaa.Gen
open Go.ChangeShapes Go.WideShapes Go.ChangeAt Go.RowKit Go.Joins Go.Deep Base
set_option linter.unusedVariables false
set_option linter.unusedSimpArgs false

theorem zeros_one (n : Nat) : ∀ v ∈ (Builtin.zeroCells #[Value.int .i64 0, .int .i64 0, .bool false] n).toList, v.oneCell' = true := by
  intro v hv
  simp only [Builtin.zeroCells, Array.toList_map, List.mem_map] at hv
  obtain ⟨i, _, rfl⟩ := hv
  have h3 : i % 3 < 3 := Nat.mod_lt _ (by omega)
  have h : i % 3 = 0 ∨ i % 3 = 1 ∨ i % 3 = 2 := by omega
  show (#[Value.int .i64 0, .int .i64 0, .bool false][i % 3]!).oneCell' = true
  rcases h with h | h | h <;> rw [h] <;> rfl
theorem zeros_len (n : Nat) : (Builtin.zeroCells #[Value.int .i64 0, .int .i64 0, .bool false] n).toList.length = n * 3 := by simp [Builtin.zeroCells]

theorem clear_run (w : World) (b n cap : Nat) (ty : TypeId) (cur : Array Value) (hb : Blk w b 59 cur) (hn : n * 3 ≤ cur.size) :
    ∃ cur', cur'.size = cur.size ∧ (Builtin.clear_ #[82] ty #[.slice (some ⟨b, 0, none⟩) n cap]).run Try.prog w = .ok (.tuple #[]) (w.setRow b cur') := by
  by_cases h0 : n = 0
  · subst h0
    refine ⟨cur, rfl, ?_⟩
    rw [setRow_self w b cur 59 (0, 0) hb]
    simp [Builtin.clear_, run_underlying Try.underlying82]
  · obtain ⟨m, rfl⟩ : ∃ m, n = m + 1 := ⟨n - 1, by omega⟩
    obtain ⟨i0, hi, hz0, hz1, hz2⟩ := info_parts infoMb
    have hst := run_storeCells_at Try.prog b 0 59 (Builtin.zeroCells #[Value.int .i64 0, .int .i64 0, .bool false] (m + 1)).toList 0 cur w hb (by rw [zeros_len]; omega) (zeros_one _)
    generalize hX : (List.take (0 + 0) cur.toList ++ (Builtin.zeroCells #[Value.int .i64 0, .int .i64 0, .bool false] (m + 1)).toList ++ List.drop (0 + 0 + (Builtin.zeroCells #[Value.int .i64 0, .int .i64 0, .bool false] (m + 1)).toList.length) cur.toList).toArray = X at hst
    refine ⟨X, ?_, ?_⟩
    · rw [← hX, zeros_len]
      have := zeros_len (m + 1)
      simp only [List.size_toArray, List.length_append, List.length_take, List.length_drop, this, Array.length_toList]
      omega
    · simp only [Builtin.clear_, Sem.run_bind, run_underlying Try.underlying82, Result.andThen_ok]
      simp [zeroValue, typeInfo, hi, hz0, Value.cells]
      rw [hst]; rfl
theorem wpList_clear_is {P : Program} {w w' : World} {ops : Array Oper} {rest : List Oper} {o : Oper} {a : Act} {Q : Exit → Act → World → Prop} (hgd : o.guard = none) (s : Operand) (t : TypeId)
    (ho : o.op = .call { callee := .builtin .clear, args := #[s], argTypes := #[t] }) (v r : Value) (hs : a.eval s = v)
    (hr : (Builtin.clear_ #[t] o.type #[v]).run P w = .ok r w') (h : wpList P ops Q rest (a.put o.dst r) w') : wpList P ops Q (o :: rest) a w := by
  refine wpList_plain hgd fun _ hK => ?_
  unfold Oper.wp execOp
  simp only [ho, resolve, invoke, builtin, Sem.run_bind, Sem.run_pure, Result.andThen_ok, List.map_toArray, List.map_cons, List.map_nil, hs, hr]
  exact hK _ _ h
theorem wpList_copy_is {P : Program} {w w' : World} {ops : Array Oper} {rest : List Oper} {o : Oper} {a : Act} {Q : Exit → Act → World → Prop} (hgd : o.guard = none) (s x : Operand) (t : TypeId)
    (ho : o.op = .call { callee := .builtin .copy, args := #[s, x], argTypes := #[t, t] }) (v xv r : Value) (hs : a.eval s = v) (hx : a.eval x = xv)
    (hr : (Builtin.copy_ #[t, t] o.type #[v, xv]).run P w = .ok r w') (h : wpList P ops Q rest (a.put o.dst r) w') : wpList P ops Q (o :: rest) a w := by
  refine wpList_plain hgd fun _ hK => ?_
  unfold Oper.wp execOp
  simp only [ho, resolve, invoke, builtin, Sem.run_bind, Sem.run_pure, Result.andThen_ok, List.map_toArray, List.map_cons, List.map_nil, hs, hx, hr]
  exact hK _ _ h
theorem off_setRow (w : World) (b : Nat) (cs : Array Value) (F : List Nat) (hb : b ∈ F) : Off F w (w.setRow b cs) := ⟨rfl, rfl, rfl, by simp, fun k _ hk => setRow_other w b k cs (fun e => hk (e ▸ hb))⟩
theorem off_setCell {F : List Nat} {w W : World} (h : Off F w W) (b i : Nat) (v : Value) (hb : b ∈ F) : Off F w (W.setCell ⟨b, i, none⟩ v) :=
  ⟨h.os, h.tape, h.output, by simpa using h.size, fun k hk hn => (Below.heap_setCell W ⟨b, i, none⟩ v k (fun e => hn (e ▸ hb))).trans (h.block k hk hn)⟩

set_option maxRecDepth 100000 in
theorem empty_any (Bs b n cap : Nat) (vN : Value) (cur : Array Value) (w : World) (hs : Blk w Bs 84 #[.slice (some ⟨b, 0, none⟩) n cap, vN]) (hb : Blk w b 59 cur) (hn : n * 3 ≤ cur.size) (hnc : n ≤ cap) (hcap : cap ≤ 1048576) (hne : b ≠ Bs) :
    Calls Try.prog 56 #[.pointer (some ⟨Bs, 0, none⟩)] w fun e w' => e = .returned (.tuple #[]) ∧ ∃ cur', cur'.size = cur.size ∧ Blk w' b 59 cur' ∧ Blk w' Bs 84 #[.slice (some ⟨b, 0, none⟩) 0 cap, vN] ∧ Off [b, Bs] w w' := by
  obtain ⟨cur', hsz, hr⟩ := clear_run w b n cap 0 cur hb hn
  have hr' : ∀ ty, (Builtin.clear_ #[82] ty #[.slice (some ⟨b, 0, none⟩) n cap]).run Try.prog w = .ok (.tuple #[]) (w.setRow b cur') := fun _ => hr
  have hb1 : Blk (w.setRow b cur') b 59 cur' := setRow_heap w b cur cur' 59 (0, 0) hb
  have hs1 : Blk (w.setRow b cur') Bs 84 #[.slice (some ⟨b, 0, none⟩) n cap, vN] := (setRow_other w b Bs cur' (fun e => hne e.symm)).trans hs
  have hO := off_setRow w b cur' [b, Bs] (by simp)
  obtain ⟨u0, u1⟩ := hs.row2
  generalize w.setRow b cur' = W at *
  obtain ⟨y0, y1⟩ := hs1.row2
  have f0 := hs1.thaw 0
  have HB := hidP (hb1.other hne 0 (.slice (some ⟨b, 0, none⟩) 0 cap))
  have HS : Hid (Blk (W.setCell ⟨Bs, 0, none⟩ (.slice (some ⟨b, 0, none⟩) 0 cap)) Bs 84 #[.slice (some ⟨b, 0, none⟩) 0 cap, vN]) := hs1.setAt 0 _
  have HO := hidP (off_setCell hO Bs 0 (.slice (some ⟨b, 0, none⟩) 0 cap) (by simp))
  clear hs hb hs1 hb1 hO hr
  go_enter Try.func56, Try.ntmps56
  go_wp2_with (at_builtin; refine wpList_clear_is rfl _ _ rfl _ _ rfl (hr' _) ?_)
  go_end0
  exact ⟨rfl, cur', hsz, HB.out, HS.out, HO.out⟩

theorem copy_mbs (ty g cap cap' : Nat) (A : Option Addr) (L : List Mb) (W : World) (cur : Array Value) (hA : At W A L) (hg : Blk W g 59 cur) (hsz : cur.size = L.length * 3) :
    ∃ w2, (Builtin.copy_ #[82, 82] ty #[.slice (some ⟨g, 0, none⟩) L.length cap', .slice A L.length cap]).run Try.prog W = .ok (.int .i64 (L.length : Int)) w2 ∧ W.grownBy w2 (some g) ∧ In w2 g 0 L := by
  obtain ⟨i0, hi, hz0, hz1, hz2⟩ := info_parts infoMb
  by_cases h0 : L = []
  · subst h0
    refine ⟨W, ?_, World.grownBy.refl _ _, fun j v hv => by simp [flat] at hv⟩
    cases A <;> simp [Builtin.copy_, run_underlying Try.underlying82, Builtin.lenOf, Builtin.firstCells, sizeOf, typeInfo, hi, storeCells, loadCells, loadCellsFrom, goInt]
  · obtain ⟨b, o, rfl, hb, hin⟩ := hA.resolve_left h0
    have hfl : (flat L).length = L.length * 3 := flat_length L
    have hl := run_loadCells_list (P := Try.prog) W ⟨b, o, none⟩ (flat L) (fun j v hv => by rw [Addr.add_mid]; exact hin j v hv)
    have hst := run_storeCells_at Try.prog g 0 59 (flat L) 0 cur W hg (by omega) (flat_ones L)
    rw [hfl] at hl
    have hb2 : Blk (W.setRow g (cur.toList.take (0 + 0) ++ flat L ++ cur.toList.drop (0 + 0 + (flat L).length)).toArray) g 59 _ := setRow_heap W g _ _ 59 _ hg
    refine ⟨W.setRow g (cur.toList.take (0 + 0) ++ flat L ++ cur.toList.drop (0 + 0 + (flat L).length)).toArray, ?_, ⟨rfl, rfl, rfl, by simp [World.setRow], fun k hk hne => setRow_other W g k _ (fun e => hne (by rw [e]))⟩, ?_⟩
    · simp [Builtin.copy_, run_underlying Try.underlying82, Builtin.lenOf, Builtin.firstCells, sizeOf, typeInfo, hi, hz1, hl, hst, goInt]
    intro j v hv
    refine hb2.cell (i := 0 + j) ?_
    have hj : j < (flat L).length := (List.getElem?_eq_some_iff.1 hv).1
    simp only [Nat.zero_add, List.take_zero, List.nil_append, List.getElem?_toArray]
    rw [List.getElem?_append_left hj]; exact hv

theorem In.grown {α : Type} [Cel α] {w W : World} {row : Option Nat} {c o : Nat} {l : List α} (h : In w c o l) (hg : w.grownBy W row) (hne : some c ≠ row) : In W c o l := fun j v hv => hg.cell (h j v hv) hne
theorem Off.grown {F : List Nat} {w W W' : World} {row : Option Nat} (h : Off F w W) (hg : W.grownBy W' row) (hr : ∀ x, row = some x → x ∈ F ∨ w.heap.size ≤ x) : Off F w W' :=
  ⟨hg.os.trans h.os, hg.tape.trans h.tape, hg.output.trans h.output, Nat.le_trans h.size hg.size, fun k hk hn => (hg.block k (Nat.lt_of_lt_of_le hk h.size) (fun e => (hr k e.symm).elim (fun h1 => hn h1) (fun h1 => by omega))).trans (h.block k hk hn)⟩

/-- Who stays. -/
def keepF (time : Int) (L : List Mb) : List Mb := L.filter fun x => !goesF time x
theorem keepF_yes {time : Int} {L : List Mb} {n : Nat} (hn : n < L.length) (hh : goesF time L[n] = false) : keepF time (L.take (n + 1)) = keepF time (L.take n) ++ [L[n]] := by
  unfold keepF; rw [List.take_succ_eq_append_getElem hn, List.filter_append]; simp [hh]
theorem keepF_no {time : Int} {L : List Mb} {n : Nat} (hn : n < L.length) (hh : goesF time L[n] = true) : keepF time (L.take (n + 1)) = keepF time (L.take n) := by
  unfold keepF; rw [List.take_succ_eq_append_getElem hn, List.filter_append]; simp [hh]
theorem keepF_le (time : Int) (L : List Mb) : (keepF time L).length ≤ L.length := List.length_filter_le _ _
theorem keepF_take_le (time : Int) (L : List Mb) (n : Nat) : (keepF time (L.take n)).length ≤ L.length := by
  have := keepF_le time (L.take n); have h2 := List.length_take_le n L; have := List.length_take_le' n L; omega

set_option maxRecDepth 100000 in
set_option maxHeartbeats 2000000 in
theorem drop_any (Bs Bt b : Nat) (time : Int) (ht : I64 time) (vN : Value) (L : List Mb) (hL : ∀ x ∈ L, I64 x.beat) (hl : L.length ≤ 1048576) (w : World) (hs : Blk w Bs 84 #[.slice (some ⟨b, 0, none⟩) L.length L.length, vN]) (hI : In w b 0 L) (hZ : Sz w b 59 (L.length * 3)) (hne : b ≠ Bs)
    (hc : w.cell? ⟨Bt, 0, none⟩ = some (.int .i64 time)) (hbt : Bt < w.heap.size) (hn1 : Bt ≠ b) (hn2 : Bt ≠ Bs) :
    Calls Try.prog 33 #[.pointer (some ⟨Bs, 0, none⟩), .func (.func 34) #[] #[.pointer (some ⟨Bt, 0, none⟩)]] w fun e w' => e = .returned (.bool (decide ((keepF time L).length < L.length))) ∧ Off [b, Bs] w w' ∧
      ∃ a c, Blk w' Bs 84 #[.slice a (keepF time L).length c, vN] ∧ w'.ownsRow b 59 3 (.slice a (keepF time L).length c) (keepF time L).length (flat (keepF time L)) := by
  obtain ⟨cur, hcur, hsz⟩ := hZ
  have hbl := hcur.lt
  have hbs := hs.lt
  have HI := hidP hI
  have HL := hidP hL
  have HS := hidP hs
  have HC := hidP hcur
  obtain ⟨u0, u1⟩ := hs.row2
  have hmk := make_els (P := Try.prog) Try.underlying82 infoMb (by omega) L.length hl
  obtain ⟨w2, hr, hg2, hin2⟩ := copy_mbs 0 w.heap.size L.length L.length (some ⟨b, 0, none⟩) L (w.alloc (.cells (madeCells #[Value.int .i64 0, .int .i64 0, .bool false] (L.length * 3)) 59)) _ (.inr ⟨b, 0, rfl, by simp; omega, hI.below hbl (alloc0 (Below.refl _ _) _)⟩) (Blk.new w 59 _) (size_madeCells _ _)
  have hr' : ∀ ty, (Builtin.copy_ #[82, 82] ty #[.slice (some ⟨w.heap.size, 0, none⟩) L.length L.length, .slice (some ⟨b, 0, none⟩) L.length L.length]).run Try.prog (w.alloc (.cells (madeCells #[Value.int .i64 0, .int .i64 0, .bool false] (L.length * 3)) 59)) = .ok (.int .i64 (L.length : Int)) w2 := fun _ => hr
  have hB2 : Below w.heap.size w w2 := (alloc0 (Below.refl _ w) _).grown hg2 (by simp) (fun k e => by cases e; exact Nat.le_refl _)
  have hz2 : w.heap.size < w2.heap.size := by have := hg2.size; simp at this; omega
  have HI2 := hidP hin2
  clear hI hL hs hcur hr hg2 hin2
  go_enter Try.func33, Try.ntmps33
  go_wp2_with (at_builtin; refine wpList_copy_is rfl _ _ _ rfl _ _ _ rfl rfl (hr' _) ?_)
  refine (empty_any Bs b L.length L.length vN cur w2 (HS.out.below hB2 hbs) (HC.out.below hB2 hbl) (by omega) (Nat.le_refl _) hl hne).mono ?_
  rintro e w3 ⟨rfl, cur', hsz', hb3, hs3, ho3⟩
  have hO3 : Off [b, Bs] w w3 := by simpa using (Off.of_below hB2).trans ho3
  have hi3 := HI2.out.off ho3 hz2 (by simp; omega)
  have hw3 : w3.ownsRow b 59 3 (.slice (some ⟨b, 0, none⟩) 0 L.length) 0 (flat (keepF time (L.take 0))) := ⟨by simp [keepF, flat], .inr ⟨b, L.length, cur', rfl, Nat.le_refl _, hb3, Nat.zero_le _, by simp [maxLen]; omega, by omega, by simp [keepF, flat]⟩⟩
  have hz3 : w.heap.size < w3.heap.size := Nat.lt_of_lt_of_le hz2 ho3.size
  have P0 : Hid (Blk w3 Bs 84 #[.slice (some ⟨b, 0, none⟩) 0 L.length, vN]) := hs3
  have P1 := hidP hw3
  have P2 := hidP hi3
  clear hw3 hi3 hs3 hb3 ho3 hz2 hB2 hr' u0 u1 hmk
  go_wp2
  go_loopw [24] (fun i W => ∃ (n k : Nat) (a : Option Addr) (c : Nat), i = .int .i64 (n : Int) ∧ n ≤ L.length ∧ Hid (Blk W Bs 84 #[.slice a k c, vN]) ∧ Hid (k = (keepF time (L.take n)).length) ∧ Hid (W.ownsRow b 59 3 (.slice a k c) k (flat (keepF time (L.take n)))) ∧ Hid (∀ x, (Value.slice a k c).ownBlock = some x → x = b ∨ w.heap.size < x) ∧ Hid (In W w.heap.size 0 L) ∧ Hid (Off [b, Bs] w W) ∧ w.heap.size < W.heap.size) (fun i _ => L.length - (intOf i).toNat)
  case atStart => exact ⟨0, 0, some ⟨b, 0, none⟩, L.length, rfl, by omega, P0, by show _ = _; simp [keepF], P1, fun x hx => .inl (by cases hx; rfl), P2, hO3, hz3⟩
  case round =>
    clear P0 P1 P2 hO3 hz3
    obtain ⟨n, k, a, c, rfl, hn, bS, hk, hO, hX, hI, hOff, hz⟩ := hrel
    have qS : Bs < wr.heap.size := by omega
    obtain ⟨u0, u1⟩ := bS.out.row2
    have f0 := bS.out.thaw 0
    by_cases hlt : n < L.length
    · obtain ⟨c0, c1, c2⟩ := hI.out.getMb n hlt
      simp only [Nat.zero_add] at c0 c1 c2
      have hi0 : (0 : Int) ≤ (n : Int) := by omega
      have hi1 : (n : Int) < (L.length : Int) := by omega
      have p1 := Blk.new wr 59 #[.int .i64 L[n].who, .int .i64 L[n].beat, .bool L[n].has]
      have hct : (wr.alloc (.cells #[.int .i64 L[n].who, .int .i64 L[n].beat, .bool L[n].has] 59)).cell? ⟨Bt, 0, none⟩ = some (.int .i64 time) := by
        have := (hOff.out.cell (p := ⟨Bt, 0, none⟩) hbt (by simp; omega)).trans hc
        exact ((Off.of_below (alloc0 (Below.refl _ wr) (.cells #[.int .i64 L[n].who, .int .i64 L[n].beat, .bool L[n].has] 59))).cell (p := ⟨Bt, 0, none⟩) (by show Bt < _; omega) (by simp)).trans this
      have HCT := hidP hct
      have hxb : I64 L[n].beat := HL.out _ (List.getElem_mem hlt)
      clear hct
      go_wp2_with fail
      refine (goes_any L[n] time hxb ht Bt _ HCT.out (by simp; omega)).mono ?_
      rintro e w4 ⟨rfl, g4⟩
      have p4 := p1.below g4 p1.lt
      have bS4 := bS.out.below (via0 g4 (alloc0 (Below.refl _ _) _)) qS
      have hB4 : Below wr.heap.size wr w4 := via0 g4 (alloc0 (Below.refl _ _) _)
      have hz4 : w.heap.size < w4.heap.size := Nat.lt_of_lt_of_le hz hB4.size
      have O4 := hidP (owns_below hO.out hB4)
      have I4 := hidP (hI.out.below hz hB4)
      have F4 := hidP (hOff.out.below hB4)
      have HB4 := hidP bS4
      obtain ⟨x0, x1⟩ := bS4.row2
      obtain ⟨d0, d1, d2⟩ := p4.row3
      have f4 := bS4.thaw 0
      have hXl : Hid (∀ x, (Value.slice a k c).ownBlock = some x → x < wr.heap.size) := fun x hx => owns_lt hO.out hx
      clear p1 g4 hOff hO hI bS u0 u1 f0 c0 c1 c2 HCT
      cases hgo : goesF time L[n]
      · have hF := keepF_yes hlt hgo
        have e5 : ((w4.alloc (.cells #[.int .i64 L[n].who, .int .i64 L[n].beat, .bool L[n].has] 59)).drew).heap.size = w4.heap.size + 1 := World.size_alloc _ _
        have hA5 : At ((w4.alloc (.cells #[.int .i64 L[n].who, .int .i64 L[n].beat, .bool L[n].has] 59)).drew) (some ⟨w4.heap.size, 0, none⟩) [L[n]] := .inr ⟨w4.heap.size, 0, rfl, by rw [e5]; omega, fun j v hv => by have := (Blk.new w4 59 #[.int .i64 L[n].who, .int .i64 L[n].beat, .bool L[n].has]).cell (i := 0 + j) (v := v) (by simpa [flat, Cel.cs] using hv); exact this⟩
        have hO5 : ((w4.alloc (.cells #[.int .i64 L[n].who, .int .i64 L[n].beat, .bool L[n].has] 59)).drew).ownsRow b 59 3 (.slice a k c) (keepF time (L.take n)).length (flat (keepF time (L.take n))) := by rw [← hk.out]; exact owns_alloc O4.out _
        have hkl := keepF_take_le time L n
        obtain ⟨v', w6, hr, hown6, hgrow, hat⟩ := append_els (P := Try.prog) Try.underlying82 infoMb rfl (by decide) (by decide) b (.slice a k c) (keepF time (L.take n)) [L[n]] (some ⟨w4.heap.size, 0, none⟩) 1 ((w4.alloc (.cells #[.int .i64 L[n].who, .int .i64 L[n].beat, .bool L[n].has] 59)).drew) (by rw [e5]; omega) hO5 hA5 (by simp; omega)
        rw [← hk.out] at hown6
        rw [← hF] at hown6
        simp only [List.length_cons, List.length_nil, Nat.zero_add] at hown6 hr
        obtain ⟨a', c', rfl, _⟩ := owns_form hown6
        have hk6 : Hid (k + 1 = (keepF time (L.take (n + 1))).length) := by show _ = _; rw [hF, hk.out]; simp
        have farB : some Bs ≠ (Value.slice a k c).ownBlock := fun e => by rcases hX.out Bs e.symm with h | h <;> omega
        have farG : some w.heap.size ≠ (Value.slice a k c).ownBlock := fun e => by rcases hX.out w.heap.size e.symm with h | h <;> omega
        have hX6 : ∀ x, (Value.slice a' (k + 1) c').ownBlock = some x → x = b ∨ w.heap.size < x := fun x hx => by
          rcases hat with h | h
          · exact hX.out x (h ▸ hx)
          · rw [h, e5] at hx; cases hx; right; omega
        have farB' : some Bs ≠ (Value.slice a' (k + 1) c').ownBlock := fun e => by rcases hX6 Bs e.symm with h | h <;> omega
        have far' : some w.heap.size ≠ (Value.slice a' (k + 1) c').ownBlock := fun e => by rcases hX6 w.heap.size e.symm with h | h <;> omega
        have b5 : Below w4.heap.size w4 ((w4.alloc (.cells #[.int .i64 L[n].who, .int .i64 L[n].beat, .bool L[n].has] 59)).drew) := (alloc0 (Below.refl _ _) _).drew
        have bS5 := bS4.below b5 bS4.lt
        have p5 := p4.below b5 p4.lt
        have bS6 := bS5.kept hgrow farB
        obtain ⟨z0, z1⟩ := bS6.row2
        have f6 := bS6.thaw 0
        have HS6 : Hid (Blk (w6.setCell ⟨Bs, 0, none⟩ (.slice a' (k + 1) c')) Bs 84 #[.slice a' (k + 1) c', vN]) := bS6.setAt 0 _
        have HO6 := hidP (owns_set (C := Bs) (i := 0) (u := .slice a' (k + 1) c') hown6 farB')
        have HI6 := hidP (((I4.out.below hz4 b5).grown hgrow farG).set ⟨Bs, 0, none⟩ (.slice a' (k + 1) c') (by show Bs ≠ w.heap.size; omega))
        have HF6 := hidP (off_setCell (((F4.out.below b5).grown hgrow (fun x hx => (hX.out x hx).elim (fun h => .inl (by simp [h])) (fun h => .inr (by omega))))) Bs 0 (.slice a' (k + 1) c') (by simp))
        have HX6 := hidP hX6
        have hz6 : w.heap.size < (w6.setCell ⟨Bs, 0, none⟩ (.slice a' (k + 1) c')).heap.size := by have := hgrow.size; rw [e5] at this; simp; omega
        have HZ6 := hidP hz6
        obtain ⟨r0, r1, r2⟩ := p5.row3
        obtain ⟨s0, s1⟩ := bS5.row2
        have p6 := p5.kept hgrow (fun e => by have := hXl.out _ e.symm; omega)
        obtain ⟨t0, t1, t2⟩ := p6.row3
        have hS5 : (fun (w' : World) => w'.cell? ⟨Bs, 0, none⟩ = some (.slice a k c) ∧ w'.cell? ⟨wr.heap.size, 0, none⟩ = some (.int .i64 L[n].who) ∧ w'.cell? ⟨wr.heap.size, 1, none⟩ = some (.int .i64 L[n].beat) ∧ w'.cell? ⟨wr.heap.size, 2, none⟩ = some (.bool L[n].has)) ((w4.alloc (.cells #[.int .i64 L[n].who, .int .i64 L[n].beat, .bool L[n].has] 59)).drew) := ⟨s0, r0, r1, r2⟩
        have hS6 : (fun (w' : World) => w'.cell? ⟨Bs, 0, none⟩ = some (.slice a k c) ∧ w'.cell? ⟨wr.heap.size, 0, none⟩ = some (.int .i64 L[n].who) ∧ w'.cell? ⟨wr.heap.size, 1, none⟩ = some (.int .i64 L[n].beat) ∧ w'.cell? ⟨wr.heap.size, 2, none⟩ = some (.bool L[n].has)) w6 := ⟨z0, t0, t1, t2⟩
        have hS4 : (fun (w' : World) => w'.cell? ⟨Bs, 0, none⟩ = some (.slice a k c) ∧ w'.cell? ⟨wr.heap.size, 0, none⟩ = some (.int .i64 L[n].who) ∧ w'.cell? ⟨wr.heap.size, 1, none⟩ = some (.int .i64 L[n].beat) ∧ w'.cell? ⟨wr.heap.size, 2, none⟩ = some (.bool L[n].has)) w4.drew := ⟨x0, d0, d1, d2⟩
        clear hF hA5 hO5 hkl hown6 hgrow hat farB farG hX6 farB' far' b5 bS5 p5 bS6 p6 hz6 O4 I4 F4 hX hk
        go_wp2_with fail
        refine wp_region_noPanic ?_
        have hH : (fun (w' : World) => w'.cell? ⟨Bs, 0, none⟩ = some (.slice a k c) ∧ w'.cell? ⟨wr.heap.size, 0, none⟩ = some (.int .i64 L[n].who) ∧ w'.cell? ⟨wr.heap.size, 1, none⟩ = some (.int .i64 L[n].beat) ∧ w'.cell? ⟨wr.heap.size, 2, none⟩ = some (.bool L[n].has)) _ := hS4
        refine region_till 10 (fun (w' : World) => w'.cell? ⟨Bs, 0, none⟩ = some (.slice a k c) ∧ w'.cell? ⟨wr.heap.size, 0, none⟩ = some (.int .i64 L[n].who) ∧ w'.cell? ⟨wr.heap.size, 1, none⟩ = some (.int .i64 L[n].beat) ∧ w'.cell? ⟨wr.heap.size, 2, none⟩ = some (.bool L[n].has)) (by kernel_rfl) ?_
        refine' till_taken (i := 0) (v := _) (by kernel_rfl) rfl (by kernel_rfl) (by decide) (by kernel_rfl) (by kernel_rfl) (by kernel_rfl) (fun _ _ _ h => h) (Or.inl ⟨by rfl, ?hy1⟩) (by assumption) ?rest1
        case hy1 => (intro w hSw; (try dsimp only at hSw); go_simp <;> with_reducible rfl)
        try simp only [Act.put, List.setIfInBounds_toArray, List.set_cons_zero, List.set_cons_succ, List.getElem_toArray, List.getElem_cons_succ, List.getElem_cons_zero]
        refine' till_taken (i := 1) (v := _) (by kernel_rfl) rfl (by kernel_rfl) (by decide) (by kernel_rfl) (by kernel_rfl) (by kernel_rfl) (fun _ _ _ h => h) (Or.inl ⟨by rfl, ?hy2⟩) (by assumption) ?rest2
        case hy2 => (intro w hSw; (try dsimp only at hSw); go_simp <;> with_reducible rfl)
        try simp only [Act.put, List.setIfInBounds_toArray, List.set_cons_zero, List.set_cons_succ, List.getElem_toArray, List.getElem_cons_succ, List.getElem_cons_zero]
        refine' till_taken (i := 2) (v := _) (by kernel_rfl) rfl (by kernel_rfl) (by decide) (by kernel_rfl) (by kernel_rfl) (by kernel_rfl) (fun _ _ _ h => h) (Or.inl ⟨by rfl, ?hy3⟩) (by assumption) ?rest3
        case hy3 => (intro w hSw; (try dsimp only at hSw); go_simp <;> with_reducible rfl)
        try simp only [Act.put, List.setIfInBounds_toArray, List.set_cons_zero, List.set_cons_succ, List.getElem_toArray, List.getElem_cons_succ, List.getElem_cons_zero]
        refine' till_taken (i := 3) (v := _) (by kernel_rfl) rfl (by kernel_rfl) (by decide) (by kernel_rfl) (by kernel_rfl) (by kernel_rfl) (fun _ _ _ h => h) (Or.inl ⟨by rfl, ?hy4⟩) (by assumption) ?rest4
        case hy4 => (intro w hSw; (try dsimp only at hSw); go_simp <;> with_reducible rfl)
        try simp only [Act.put, List.setIfInBounds_toArray, List.set_cons_zero, List.set_cons_succ, List.getElem_toArray, List.getElem_cons_succ, List.getElem_cons_zero]
        refine' till_taken (i := 4) (v := _) (by kernel_rfl) rfl (by kernel_rfl) (by decide) (by kernel_rfl) (by kernel_rfl) (by kernel_rfl) (fun _ _ _ h => h) (Or.inl ⟨by rfl, ?hy5⟩) (by assumption) ?rest5
        case hy5 => (intro w hSw; (try dsimp only at hSw); go_simp <;> with_reducible rfl)
        try simp only [Act.put, List.setIfInBounds_toArray, List.set_cons_zero, List.set_cons_succ, List.getElem_toArray, List.getElem_cons_succ, List.getElem_cons_zero]
        refine' till_taken (i := 5) (v := _) (by kernel_rfl) rfl (by kernel_rfl) (by decide) (by kernel_rfl) (by kernel_rfl) (by kernel_rfl) (fun _ _ _ h => h) (Or.inl ⟨by rfl, ?hy6⟩) (by assumption) ?rest6
        case hy6 => (intro w hSw; (try dsimp only at hSw); go_simp <;> with_reducible rfl)
        try simp only [Act.put, List.setIfInBounds_toArray, List.set_cons_zero, List.set_cons_succ, List.getElem_toArray, List.getElem_cons_succ, List.getElem_cons_zero]
        refine till_next (i := 6) (by kernel_rfl) rfl (fun K hK => ?_)
        simp only [List.getElem_toArray, List.getElem_cons_succ, List.getElem_cons_zero]
        go_simp
        refine hK.out _ _ (.inr hS5) ?_
        clear hK K
        try simp only [Act.put, List.setIfInBounds_toArray, List.set_cons_zero, List.set_cons_succ, List.getElem_toArray, List.getElem_cons_succ, List.getElem_cons_zero]
        refine till_next (i := 7) (by kernel_rfl) rfl (fun K hK => ?_)
        simp only [List.getElem_toArray, List.getElem_cons_succ, List.getElem_cons_zero]
        rw [if_pos (by rfl)]; refine wp_append_is _ _ _ (by rfl) _ _ _ (by rfl) (by rfl) hr ?_
        refine hK.out _ _ (.inr hS6) ?_
        clear hK K
        try simp only [Act.put, List.setIfInBounds_toArray, List.set_cons_zero, List.set_cons_succ, List.getElem_toArray, List.getElem_cons_succ, List.getElem_cons_zero]
        refine' till_freed (i := 8) (v := _) rfl (by kernel_rfl) (by decide) (by kernel_rfl) (by kernel_rfl) (fun _ _ _ h => h) (Or.inl ⟨by rfl, ?hy7⟩) (by assumption) ?rest7
        case hy7 => (intro w hSw; (try dsimp only at hSw); go_simp <;> with_reducible rfl)
        try simp only [Act.put, List.setIfInBounds_toArray, List.set_cons_zero, List.set_cons_succ, List.getElem_toArray, List.getElem_cons_succ, List.getElem_cons_zero]
        refine' till_freed (i := 9) (v := _) rfl (by kernel_rfl) (by decide) (by kernel_rfl) (by kernel_rfl) (fun _ _ _ h => h) (Or.inl ⟨by rfl, ?hy8⟩) (by assumption) ?rest8
        case hy8 => (intro w hSw; (try dsimp only at hSw); go_simp <;> with_reducible rfl)
        try simp only [Act.put, List.setIfInBounds_toArray, List.set_cons_zero, List.set_cons_succ, List.getElem_toArray, List.getElem_cons_succ, List.getElem_cons_zero]
        refine till_next (i := 10) (by kernel_rfl) rfl (fun K hK => ?_)
        simp only [List.getElem_toArray, List.getElem_cons_succ, List.getElem_cons_zero]
        go_simp
        refine hK.out _ _ (.inl rfl) ?_
        clear hK K
        try simp only [Act.put, List.setIfInBounds_toArray, List.set_cons_zero, List.set_cons_succ, List.getElem_toArray, List.getElem_cons_succ, List.getElem_cons_zero]
        refine till_done (by kernel_rfl) ?_ _
        refine NoPanic.normal ?_
        go_wp2
        exact ⟨⟨n + 1, k + 1, a', c', by go_num, by omega, HS6, hk6, HO6, HX6, HI6, HF6, HZ6.out⟩, by simp [intOf]; omega⟩
      · have hF := keepF_no hlt hgo
        have hk' : Hid (k = (keepF time (L.take (n + 1))).length) := by show _ = _; rw [hF]; exact hk.out
        have hO' : Hid (w4.ownsRow b 59 3 (.slice a k c) k (flat (keepF time (L.take (n + 1))))) := by show World.ownsRow _ _ _ _ _ _ _; rw [hF]; exact O4.out
        clear hF
        go_wp2
        exact ⟨⟨n + 1, k, a, c, by go_num, by omega, HB4, hk', hO', hX, I4, F4, hz4⟩, by simp [intOf]; omega⟩
    · obtain rfl : n = L.length := by omega
      rw [List.take_length] at hk hO
      have hkv := hk.out
      subst hkv
      have hkl := keepF_le time L
      go_wp2
      go_ret
      exact ⟨by simp, hOff.out, a, c, bS.out, hO.out⟩
end Go.Proofs.Ytllmaiefjgfpmaa.Gen
