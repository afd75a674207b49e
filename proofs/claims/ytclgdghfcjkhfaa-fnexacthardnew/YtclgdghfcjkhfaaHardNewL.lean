/-
  FnExactHardNew: at every setup the program's HardNew answers as the specification's, its answer owns its memory, behind another call too, and the setup reads as before. No condition.
-/
import Derived.Test.YtclgdghfcjkhfaaHNew
namespace Go.Proofs.Ytclgdghfcjkhfaa.HardNew
open Go.ChangeShapes Go.WideShapes Go.ChangeAt Go.RowKit Go.Joins Base Gen
set_option linter.unusedVariables false

theorem own : ownKnob Try.prog.godebug = none := by kernel_rfl
theorem laidOut : laidOutB Try.prog = true := by kernel_rfl

theorem count_bound {α : Type} (c : α → Nat) (B : Nat) : ∀ (l : List α), (∀ y ∈ l, c y ≤ B) → count c l ≤ l.length * B
  | [], _ => by simp [count]
  | a :: l, h => by
    have h1 := count_bound c B l (fun y hy => h y (by simp [hy]))
    have h2 := h a (by simp)
    simp only [count, List.map_cons, List.sum_cons, List.length_cons, Nat.add_mul] at h1 ⊢
    omega
theorem fit_new {x : KC} {b : Bool} {ro : Int} (hr : b = true → ro ≤ 4) (h : x.p = newK b ro) : KFit x := by
  have hO := newO_le ro
  cases b
  · simp only [KC.p, newK, PK.mk.injEq, Bool.false_eq_true, if_false, List.map_eq_nil_iff] at h
    obtain ⟨h1, h2, h3, h4, h5, h6⟩ := h
    exact ⟨by simp [h1], by simp [h2], by simp [h3], by simp [h5], by simp [h6], by simp [h1], by simp [h2], by simp [h3], by simp [h1, count], by simp [h2, count], by simp [h3, count]⟩
  · simp only [KC.p, newK, PK.mk.injEq, if_true, List.map_eq_nil_iff] at h
    obtain ⟨h1, h2, h3, h4, h5, h6⟩ := h
    have hr4 := hr rfl
    have l1 : x.rs.length ≤ 4 := by have := congrArg List.length h1; simp at this; omega
    have l3 : x.gs.length = 2 := by have := congrArg List.length h3; simpa using this
    have i1 : ∀ y ∈ x.rs, y.its = [] := fun y hy => by
      have : y.p ∈ List.replicate ro.toNat (⟨0, 0, []⟩ : PR) := h1 ▸ List.mem_map_of_mem hy
      have := (List.mem_replicate.1 this).2
      simpa [RC.p] using congrArg PR.its this
    have i3 : ∀ y ∈ x.gs, y.m = [] ∧ y.b = [] ∧ y.o = newO ro := fun y hy => by
      have : y.p ∈ List.replicate 2 (⟨0, [], [], newO ro⟩ : PG) := h3 ▸ List.mem_map_of_mem hy
      have := (List.mem_replicate.1 this).2
      exact ⟨by simpa [GC.p] using congrArg PG.m this, by simpa [GC.p] using congrArg PG.b this, by simpa [GC.p] using congrArg PG.o this⟩
    have c1 := count_bound cR 2 x.rs (fun y hy => by simp [cR, i1 y hy])
    have c3 := count_bound cG 5 x.gs (fun y hy => by obtain ⟨e1, e2, e3⟩ := i3 y hy; simp only [cG, e1, e2, e3, List.length_nil]; omega)
    refine ⟨by omega, by simp [h2], by omega, by simp [h5], by simp [h6], fun y hy => by simp [i1 y hy], by simp [h2], fun y hy => ?_, by omega, by simp [h2, count], by omega⟩
    obtain ⟨e1, e2, e3⟩ := i3 y hy
    rw [e1, e2, e3]
    simp only [List.length_nil]
    omega

theorem eqHard_is (vo : Int) (x s : KC) (hf : KFit x) (hp : s.p = x.p) (w : World) (hx : KAt w x) (hs : KAt w s) :
    Calls Try.prog 7 #[.agg #[.int .i64 0, .int .i64 vo, .int .i64 0, .int .i64 0, .slice none 0 0, .slice x.rA x.rs.length x.rc, .slice x.mA x.ms.length x.mc, .slice x.gA x.gs.length x.gc, .int .i64 x.time, .slice x.dA x.ds.length x.dc, .slice x.lA x.ls.length x.lc], .agg #[.int .i64 0, .int .i64 vo, .int .i64 0, .int .i64 0, .slice none 0 0, .slice s.rA s.rs.length s.rc, .slice s.mA s.ms.length s.mc, .slice s.gA s.gs.length s.gc, .int .i64 s.time, .slice s.dA s.ds.length s.dc, .slice s.lA s.ls.length s.lc]] w fun e w' => e = .returned (.bool true) ∧ Below w.heap.size w w' :=
  eqHard_same 0 vo 0 0 none none 0 0 [] (by simp) x s hf hp w (.inl rfl) (.inl rfl) hx hs
theorem markHard_is (vo : Int) (x : KC) (hf : KFit x) (S : Nat → Prop) (w : World) (hlt : ∀ b, S b → b < w.heap.size) (h : KOwn w x S) :
    Calls Try.prog 8 #[.agg #[.int .i64 0, .int .i64 vo, .int .i64 0, .int .i64 0, .slice none 0 0, .slice x.rA x.rs.length x.rc, .slice x.mA x.ms.length x.mc, .slice x.gA x.gs.length x.gc, .int .i64 x.time, .slice x.dA x.ds.length x.dc, .slice x.lA x.ls.length x.lc], .int .i64 1] w fun e w' => e = .returned (.int .i64 (1 + (kct x : Int))) ∧ Offp S w w' ∧ KOwn w' (mK x 1) S := by
  refine (markHard_any 0 vo 0 0 none 0 [] (by simp) x hf [] S (by simp) 1 (by omega) (by omega) w hlt (Sl.nil _ _) h).mono ?_
  rintro e w' ⟨rfl, h1, h2, h3⟩
  exact ⟨by simp, h1.mono (fun b hb => hb.elim (fun e => by simp at e) id), by simpa using h3⟩
theorem heldHard_is (vo : Int) (x : KC) (hf : KFit x) (w : World) (h : KAt w (mK x 1)) :
    Calls Try.prog 9 #[.agg #[.int .i64 0, .int .i64 vo, .int .i64 0, .int .i64 0, .slice none 0 0, .slice x.rA x.rs.length x.rc, .slice x.mA x.ms.length x.mc, .slice x.gA x.gs.length x.gc, .int .i64 x.time, .slice x.dA x.ds.length x.dc, .slice x.lA x.ls.length x.lc], .int .i64 1] w fun e w' => e = .returned (.int .i64 (1 + (kct x : Int))) ∧ Below w.heap.size w w' := by
  refine (heldHard_any 0 vo 0 0 none 0 [] (by simp) x hf [] 1 (by omega) (by omega) w (.inl ⟨by simp [marksEn], rfl⟩) (by simpa using h)).mono ?_
  rintro e w' ⟨rfl, h1⟩
  exact ⟨by simp, h1⟩

/-- What the law holds from call to call: the setup's box, the wanted keeper in its box i, nothing that was there has turned. -/
structure Lk (w W : World) (ro wi le ke vo : Int) (s : KC) (i lo hi : Nat) : Prop where
  box : Blk W w.heap.size 23 #[.int .i64 ro, .int .i64 wi, .int .i64 le, .int .i64 ke]
  boxI : Blk W i 35 #[.int .i64 0, .int .i64 vo, .int .i64 0, .int .i64 0, .slice none 0 0, .slice s.rA s.rs.length s.rc, .slice s.mA s.ms.length s.mc, .slice s.gA s.gs.length s.gc, .int .i64 s.time, .slice s.dA s.ds.length s.dc, .slice s.lA s.ls.length s.lc]
  bel : Below w.heap.size w W
  low : w.heap.size < i
  lo' : w.heap.size < lo
  hi' : hi ≤ i
  own : KOwn W s (fun b => lo ≤ b ∧ b < hi)
theorem Lk.offp {w W W' : World} {ro wi le ke vo : Int} {s : KC} {i lo hi : Nat} (h : Lk w W ro wi le ke vo s i lo hi) {S : Nat → Prop} (k : Offp S W W') (hS : ∀ x, S x → i < x) : Lk w W' ro wi le ke vo s i lo hi := by
  have h1 := h.low
  have h2 := h.lo'
  have h3 := h.hi'
  exact ⟨h.box.offp k (fun e => by have := hS _ e; omega), h.boxI.offp k (fun e => by have := hS _ e; omega), h.bel.trans (k.toBelow (fun x hx => by have := hS x hx; omega) h.bel.size), h1, h2, h3, h.own.offp k (fun b hb e => by have := hS _ e; omega)⟩
theorem Lk.below {w W W' : World} {ro wi le ke vo : Int} {s : KC} {i lo hi : Nat} (h : Lk w W ro wi le ke vo s i lo hi) (k : Below W.heap.size W W') : Lk w W' ro wi le ke vo s i lo hi := h.offp (Offp.of_below (S := fun _ => False) k) (fun _ e => e.elim)

set_option maxRecDepth 100000 in
set_option maxHeartbeats 1000000 in
theorem law_any (ro wi le ke : Int) (w : World) :
    Calls Try.prog 3 #[.agg #[.int .i64 ro, .int .i64 wi, .int .i64 le, .int .i64 ke]] w fun e w' => e = .returned (.bool true) ∧ Below w.heap.size w w' := by
  obtain ⟨B, hB⟩ : ∃ B, setB ro wi le ke = B := ⟨_, rfl⟩
  have hr4 : Hid (B = true → ro ≤ 4) := fun h => (setB_rows (hB.trans h)).2
  obtain ⟨vo, hvo⟩ : ∃ vo, newVo B = vo := ⟨_, rfl⟩
  have HSPEC : Hid (∀ W : World, Calls Try.prog 4 #[.agg #[.int .i64 ro, .int .i64 wi, .int .i64 le, .int .i64 ke]] W fun e w' => ∃ s : KC, e = .returned (.agg #[.int .i64 0, .int .i64 vo, .int .i64 0, .int .i64 0, .slice none 0 0, .slice s.rA s.rs.length s.rc, .slice s.mA s.ms.length s.mc, .slice s.gA s.gs.length s.gc, .int .i64 s.time, .slice s.dA s.ds.length s.dc, .slice s.lA s.ls.length s.lc]) ∧ s.p = newK B ro ∧ KOwn w' s (fun b => W.heap.size ≤ b ∧ b < w'.heap.size) ∧ Below W.heap.size W w') := fun W => by have h := specHardNew_any ro wi le ke W; rw [hB] at h; simp only [ToldH, hvo] at h; exact h
  have HIMP : Hid (∀ W : World, Calls Try.prog 6 #[.agg #[.int .i64 ro, .int .i64 wi, .int .i64 le, .int .i64 ke]] W fun e w' => ∃ s : KC, e = .returned (.agg #[.int .i64 0, .int .i64 vo, .int .i64 0, .int .i64 0, .slice none 0 0, .slice s.rA s.rs.length s.rc, .slice s.mA s.ms.length s.mc, .slice s.gA s.gs.length s.gc, .int .i64 s.time, .slice s.dA s.ds.length s.dc, .slice s.lA s.ls.length s.lc]) ∧ s.p = newK B ro ∧ KOwn w' s (fun b => W.heap.size ≤ b ∧ b < w'.heap.size) ∧ Below W.heap.size W w') := fun W => by have h := implHardNew_any ro wi le ke W; rw [hB] at h; simp only [ToldH, hvo] at h; exact h
  clear hB hvo
  go_enter Try.func3, Try.ntmps3
  go_wp2_with fail
  refine (toSetup_any ro wi le ke _).mono ?_
  rintro e w1 ⟨rfl, g1⟩
  have p1 := (Blk.new w 23 #[.int .i64 ro, .int .i64 wi, .int .i64 le, .int .i64 ke]).below g1 (by simp)
  have B1 : Below w.heap.size w w1 := via0 g1 (alloc0 (Below.refl _ _) _)
  have q1 : w.heap.size < w1.heap.size := p1.lt
  go_wp2_with fail
  refine (HSPEC.out _).mono ?_
  rintro e w2 ⟨s, he, hps, hos, g2⟩
  subst he
  have p2 := p1.below g2 p1.lt
  have B2 : Below w.heap.size w w2 := via0 g2 B1
  have n2 : Below w2.heap.size w2 (w2.alloc (.cells #[.int .i64 0, .int .i64 vo, .int .i64 0, .int .i64 0, .slice none 0 0, .slice s.rA s.rs.length s.rc, .slice s.mA s.ms.length s.mc, .slice s.gA s.gs.length s.gc, .int .i64 s.time, .slice s.dA s.ds.length s.dc, .slice s.lA s.ls.length s.lc] 35)) := alloc0 (Below.refl _ _) _
  have L2 : Lk w (w2.alloc (.cells #[.int .i64 0, .int .i64 vo, .int .i64 0, .int .i64 0, .slice none 0 0, .slice s.rA s.rs.length s.rc, .slice s.mA s.ms.length s.mc, .slice s.gA s.gs.length s.gc, .int .i64 s.time, .slice s.dA s.ds.length s.dc, .slice s.lA s.ls.length s.lc] 35)) ro wi le ke vo s w2.heap.size w1.heap.size w2.heap.size :=
    ⟨p2.below n2 p2.lt, Blk.new w2 _ _, via0 n2 B2, by have := g2.size; omega, q1, Nat.le_refl _, hos.below n2⟩
  have HL := hidP L2
  have Hps := hidP hps
  clear p1 p2 B1 B2 n2 L2 hos hps g1
  obtain ⟨u0, u1, u2, u3⟩ := HL.out.box.row4
  have qb := HL.out.box.lt
  go_wp2_with fail
  refine (toSetup_any ro wi le ke _).mono ?_
  rintro e w3 ⟨rfl, g3⟩
  have L3 := HL.out.below g3
  have s3 := g3.size
  simp only [World.size_alloc] at s3
  clear u0 u1 u2 u3 HL qb g3
  have HL := hidP L3
  clear L3
  go_wp2_with fail
  refine (HIMP.out _).mono ?_
  rintro e w4 ⟨x, he, hpx, hox, g4⟩
  subst he
  have n4 : Below w4.heap.size w4 (w4.alloc (.cells #[.int .i64 0, .int .i64 vo, .int .i64 0, .int .i64 0, .slice none 0 0, .slice x.rA x.rs.length x.rc, .slice x.mA x.ms.length x.mc, .slice x.gA x.gs.length x.gc, .int .i64 x.time, .slice x.dA x.ds.length x.dc, .slice x.lA x.ls.length x.lc] 35)) := alloc0 (Below.refl _ _) _
  have L4 := (HL.out.below g4).below n4
  have J4 : Blk (w4.alloc (.cells #[.int .i64 0, .int .i64 vo, .int .i64 0, .int .i64 0, .slice none 0 0, .slice x.rA x.rs.length x.rc, .slice x.mA x.ms.length x.mc, .slice x.gA x.gs.length x.gc, .int .i64 x.time, .slice x.dA x.ds.length x.dc, .slice x.lA x.ls.length x.lc] 35)) w4.heap.size 35 #[.int .i64 0, .int .i64 vo, .int .i64 0, .int .i64 0, .slice none 0 0, .slice x.rA x.rs.length x.rc, .slice x.mA x.ms.length x.mc, .slice x.gA x.gs.length x.gc, .int .i64 x.time, .slice x.dA x.ds.length x.dc, .slice x.lA x.ls.length x.lc] := Blk.new w4 _ _
  have O4 := hox.below n4
  have s4 := g4.size
  have Hf := hidP (fit_new hr4.out hpx)
  have Hpe : Hid (s.p = x.p) := Hps.out.trans hpx.symm
  have Hpx := hidP hpx
  clear HL n4 hox hpx g4
  have HL := hidP L4
  have HO := hidP O4
  clear L4 O4
  have J5 := J4
  obtain ⟨u0, u1, u2, u3, u4, u5, u6, u7, u8, u9, u10⟩ := HL.out.boxI.row11
  obtain ⟨v0, v1, v2, v3, v4, v5, v6, v7, v8, v9, v10⟩ := J4.row11
  have qi := HL.out.boxI.lt
  have qj := J4.lt
  go_wp2_with fail
  refine (eqHard_is vo x s Hf.out Hpe.out _ HO.out.at HL.out.own.at).mono ?_
  rintro e w5 ⟨rfl, g5⟩
  have L5 := HL.out.below g5
  have O5 := HO.out.below g5
  have J5 := J4.below g5 J4.lt
  have s5 := g5.size
  simp only [World.size_alloc] at s5
  clear u0 u1 u2 u3 u4 u5 u6 u7 u8 u9 u10 v0 v1 v2 v3 v4 v5 v6 v7 v8 v9 v10 HL HO J4 g5 qi qj
  have HL := hidP L5
  have HO := hidP O5
  clear L5 O5
  obtain ⟨v0, v1, v2, v3, v4, v5, v6, v7, v8, v9, v10⟩ := J5.row11
  go_wp2_with fail
  refine (markHard_is vo x Hf.out _ _ (fun b hb => by omega) HO.out).mono ?_
  obtain ⟨m, hm⟩ : ∃ m : Int, m = 1 + (kct x : Int) := ⟨_, rfl⟩
  rw [← hm]
  have hm0 : ¬ m < 0 := by omega
  have Hm := hidP hm
  clear hm
  rintro e w6 ⟨rfl, k6, o6⟩
  have L6 := HL.out.offp k6 (fun b hb => by omega)
  have J6 := J5.offp k6 (fun e => by omega)
  have s6 := k6.size
  clear v0 v1 v2 v3 v4 v5 v6 v7 v8 v9 v10 HL HO J5 k6
  have HL := hidP L6
  have HO := hidP o6
  clear L6 o6
  obtain ⟨v0, v1, v2, v3, v4, v5, v6, v7, v8, v9, v10⟩ := J6.row11
  go_wp2_with fail
  refine (heldHard_is vo x Hf.out _ HO.out.at).mono ?_
  rw [← Hm.out]
  rintro e w7 ⟨rfl, g7⟩
  have L7 := HL.out.below g7
  have O7 := HO.out.below g7
  have J7 := J6.below g7 J6.lt
  have s7 := g7.size
  clear v0 v1 v2 v3 v4 v5 v6 v7 v8 v9 v10 HL HO J6 g7
  have HL := hidP L7
  have HO := hidP O7
  clear L7 O7
  obtain ⟨u0, u1, u2, u3⟩ := HL.out.box.row4
  go_wp2_with fail
  refine (toSetup_any ro wi le ke _).mono ?_
  rintro e w8 ⟨rfl, g8⟩
  have L8 := HL.out.below g8
  have O8 := HO.out.below g8
  have J8 := J7.below g8 J7.lt
  have s8 := g8.size
  clear u0 u1 u2 u3 HL HO J7 g8
  have HL := hidP L8
  have HO := hidP O8
  clear L8 O8
  go_wp2_with fail
  refine (HIMP.out _).mono ?_
  rintro e w9 ⟨h, he, hph, hoh, g9⟩
  subst he
  have n9 : Below w9.heap.size w9 (w9.alloc (.cells #[.int .i64 0, .int .i64 vo, .int .i64 0, .int .i64 0, .slice none 0 0, .slice h.rA h.rs.length h.rc, .slice h.mA h.ms.length h.mc, .slice h.gA h.gs.length h.gc, .int .i64 h.time, .slice h.dA h.ds.length h.dc, .slice h.lA h.ls.length h.lc] 35)) := alloc0 (Below.refl _ _) _
  have L9 := (HL.out.below g9).below n9
  have O9 := (HO.out.below g9).below n9
  have J9 := (J8.below g9 J8.lt).below n9 (Nat.lt_of_lt_of_le J8.lt g9.size)
  have H9 := hoh.below n9
  have Hfh := hidP (fit_new hr4.out hph)
  have Hphe : Hid (s.p = h.p) := Hps.out.trans hph.symm
  clear HL HO J8 n9 hoh hph g9
  have HL := hidP L9
  have HO := hidP O9
  have HH := hidP H9
  clear L9 O9 H9
  obtain ⟨u0, u1, u2, u3, u4, u5, u6, u7, u8, u9, u10⟩ := HL.out.boxI.row11
  have qi := HL.out.boxI.lt
  go_wp2_with fail
  refine (eqHard_is vo h s Hfh.out Hphe.out _ HH.out.at HL.out.own.at).mono ?_
  rintro e w10 ⟨rfl, g10⟩
  have L10 := HL.out.below g10
  have O10 := HO.out.below g10
  have J10 := J9.below g10 J9.lt
  clear u0 u1 u2 u3 u4 u5 u6 u7 u8 u9 u10 HL HO HH J9 g10 qi
  have HL := hidP L10
  have HO := hidP O10
  clear L10 O10
  obtain ⟨v0, v1, v2, v3, v4, v5, v6, v7, v8, v9, v10⟩ := J10.row11
  go_wp2_with fail
  refine (heldHard_is vo x Hf.out _ HO.out.at).mono ?_
  rw [← Hm.out]
  rintro e w11 ⟨rfl, g11⟩
  have HB := hidP (HL.out.below g11).bel
  clear v0 v1 v2 v3 v4 v5 v6 v7 v8 v9 v10 HL HO J10 g11
  go_wp2
  go_ret
  exact ⟨rfl, HB.out⟩

set_option maxRecDepth 100000 in
theorem contract (H : Type) (enc : TypeId × Value → H) (W : World) (base : Nat) (args : Array Value) (ds gs : List (DataW H)) (before : List MemPlace)
    (hval : ∀ (j : Nat) t v, Try.f3.params[j]? = some t → args[j]? = some v → Value.okWide Try.prog W .any base t v)
    (hW : DataW.Whole enc Try.prog Try.f3.params.toList Rows.fnExactHardNewSpec.vars false W args.toList ds gs before) :
    Calls Try.prog 3 args W fun e W' => ∃ v, e = .returned v ∧ Rows.fnExactHardNewSpec.post enc Try.prog Try.f3 false true false false W args v W' := by
  have hW' := hW
  obtain ⟨p, q, hA0, hV, rfl, hfz, hnd⟩ := hW
  have hA : DataW.TrodAll enc Try.prog W 0 (fun _ => true) true Try.f3.params.toList args.toList ds p := hA0
  rw [Try.params3] at hA hval
  obtain ⟨v0, d0, rfl, rfl, h0⟩ := trodAll_one hA
  obtain ⟨rfl, rfl⟩ := trodVars_none hV
  obtain ⟨ro, wi, le, ke, rfl, _, _, _, _⟩ := openSetup (hval 0 23 v0 rfl rfl) h0
  refine (law_any ro wi le ke W).mono fun e W' ⟨he, hb⟩ => ?_
  subst he
  exact ⟨_, rfl, post_true laidOut (by kernel_rfl) (by kernel_rfl) Try.underlying4 rfl rfl hW' hb⟩

set_option maxRecDepth 100000 in
theorem lifted (os : Os) (started : os.Started) (H : Type) (enc : TypeId × Value → H) :
    ReturnsInHanded {} Try.checked os 3 .any (Rows.fnExactHardNewSpec.pre6 enc Try.prog Try.f3 Rows.fnExactHardNewRow.domain false) (Rows.fnExactHardNewSpec.post enc Try.prog Try.f3 false true false false) := by
  refine returnsInHanded_of_change (C := Try.checked) own started (by kernel_rfl) Try.func3
    (ChangeSpec.witness6 (enc := enc) (C := Try.checked) false ⟨#[], #[.agg #[.int .i64 0, .int .i64 0, .int .i64 0, .int .i64 0]], []⟩ 8 (by kernel_rfl) (by kernel_rfl) (by kernel_rfl) (by kernel_rfl)) ?_
  intro W base args ds gs before hval0 hW _ _
  exact contract H enc W base args ds gs before hval0 hW

set_option maxRecDepth 100000 in
theorem proved : Rows.FnExactHardNewSaid :=
  OpenClaim.holds_of_wide 3 Try.f3 rfl rfl rfl rfl rfl rfl rfl ⟨rfl, rfl, rfl, rfl, rfl⟩ rfl rfl rfl rfl rfl (by kernel_rfl) Try.func3 (by kernel_rfl)
    (of_decide_eq_true (by kernel_rfl)) (by unfold Func.isWrapper; first | (rw [if_pos (by decide +kernel)]; kernel_rfl) | (rw [if_neg (by decide +kernel)]; exact ⟨rfl, rfl⟩))
    (fun os started H enc _ => lifted os started H enc)
end Go.Proofs.Ytclgdghfcjkhfaa.HardNew
namespace Go.Proofs.Ytclgdghfcjkhfaa
theorem hardNew_holds : Rows.FnExactHardNewSaid := HardNew.proved
end Go.Proofs.Ytclgdghfcjkhfaa
