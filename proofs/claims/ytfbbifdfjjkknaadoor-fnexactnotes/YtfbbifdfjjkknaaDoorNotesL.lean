/-
  FnExactNotes: at every input the program's notes are the specification's, field by field, and so is how many bytes they take; it writes into no argument; its answer owns its memory, behind another call too. Condition: the library's variable errors.errorType holds what the program's text lays (the card ties it).
-/
import Derived.Test.YtfbbifdfjjkknaaDoorNNs
import Derived.Test.YtfbbifdfjjkknaaDoorBSl
import Derived.Test.YtfbbifdfjjkknaaDoorCards
import Derived.Test.YtfbbifdfjjkknaaDoorTie
import Derived.ChangeMaps5
import Derived.ChangeSame
import Derived.ChangeVars
import Derived.JoinedOf
import Derived.LaidLaws
import Derived.LaidHandle
import Derived.Stop.Joined
import Derived.Deep.DeepHandedRow
namespace Go.Proofs.YtfbbifdfjjkknaaDoor.NotesL
open Go.ChangeShapes Go.WideShapes Go.ChangeAt Go.RowKit Go.Joins Go.Deep Base Gen
set_option linter.unusedVariables false

theorem own : ownKnob Tryd.prog.godebug = none := by kernel_rfl
theorem laidOut : laidOutB Tryd.prog = true := by kernel_rfl

theorem markNone (A : Option Addr) (cap : Nat) (k : Int) (w : World) :
    Calls Tryd.prog 10 #[.slice A 0 cap, .int .i64 k] w fun e w' => e = .returned (.int .i64 k) ∧ w' = w := by
  go_enter Tryd.func10, Tryd.ntmps10
  go_wp2
  go_loopw [1, 5] (fun kk i w' => kk = .int .i64 k ∧ i = .int .i64 0 ∧ w' = w) (fun _ _ _ => 0)
  case atStart => exact ⟨rfl, rfl, rfl⟩
  case round =>
    obtain ⟨rfl, rfl, rfl⟩ := hrel
    go_wp2
    go_ret
    exact ⟨rfl, rfl⟩
/-- A list of notes marked where it lies. -/
theorem markOwn (A : Option Addr) (cap : Nat) (l : List NC) (S : Nat → Prop) (hc : count cN l ≤ 50000000) (hl : l.length ≤ 1048576) (hs : ∀ x ∈ l, x.l.length ≤ 1048576) (w : World) (h : Own noteP w A l S) :
    Calls Tryd.prog 10 #[.slice A l.length cap, .int .i64 1] w fun e w' => e = .returned (.int .i64 (1 + (count cN l : Int))) ∧ Offp S w w' ∧ Own noteP w' A (marked mN cN l 1) S := by
  rcases h with rfl | ⟨b, o, fp, rfl, hb, hfp, hO⟩
  · refine (markNone A cap 1 w).mono ?_
    rintro e w' ⟨rfl, rfl⟩
    exact ⟨by simp [count], Offp.refl _ _, .inl rfl⟩
  · refine (markNoteS_any b o cap l fp 1 (by omega) (by omega) hc hl hs w hO).mono ?_
    rintro e w' ⟨rfl, k, hO'⟩
    refine ⟨rfl, k.mono (fun x hx => ?_), .inr ⟨b, o, fp, rfl, hb, hfp, hO'⟩⟩
    rcases hx with rfl | ⟨i, hi⟩
    · exact hb
    · exact hfp i x hi

set_option maxRecDepth 100000 in
set_option maxHeartbeats 4000000 in
theorem law_any (A : Option Addr) (cap : Nat) (l : List UInt8) (hl : l.length ≤ 9223372036854775807) (w : World) (hA : At w A l) (hgl : w.cell? ⟨0, 0, none⟩ = some (.iface 102 (.agg #[.pointer (some ⟨1, 40, none⟩)]))) :
    Calls Tryd.prog 3 #[.slice A l.length cap] w fun e w' => e = .returned (.bool true) ∧ Below w.heap.size w w' := by
  have HA := hidP hA
  by_cases hs : ¬ l.length ≤ 1048576
  · have h1 : (1048576 : Int) < (l.length : Int) := by omega
    clear hs hA hgl
    go_enter Tryd.func3, Tryd.ntmps3
    go_wp2
    go_ret
    exact ⟨rfl, Below.refl _ _⟩
  replace hs : l.length ≤ 1048576 := Decidable.not_not.1 hs
  have hs1 : ¬ ((1048576 : Int) < (l.length : Int)) := by omega
  have h0 : 0 < w.heap.size := by
    rcases Nat.eq_zero_or_pos w.heap.size with h0 | h
    · simp [World.cell?, h0] at hgl
    · exact h
  have HG : Hid (∀ W : World, Below w.heap.size w W → W.cell? ⟨0, 0, none⟩ = some (.iface 102 (.agg #[.pointer (some ⟨1, 40, none⟩)]))) := hidP (fun W g => (World.cell?_of_block (a := ⟨0, 0, none⟩) (g.block 0 h0)).trans hgl)
  have hle := notesN_le l (l.length + 1) 0 (by omega)
  obtain ⟨P, hP⟩ : ∃ P, (notes l).1 = P := ⟨_, rfl⟩
  obtain ⟨C, hC⟩ : ∃ C, ((notes l).2 : Int) = C := ⟨_, rfl⟩
  obtain ⟨N, hN⟩ : ∃ N, P.length = N := ⟨_, rfl⟩
  have hP' : (notesN l (l.length + 1) 0).1 = P := hP
  have hcP : count cP P ≤ 9437184 := by rw [← hP']; omega
  have hN1 : N ≤ 1048576 := by rw [← hN, ← hP']; omega
  have HS : Hid (∀ (a : Option Addr) (W : World), At W a l → Calls Tryd.prog 4 #[.slice a l.length l.length] W fun e w' => ∃ (xs : List NC) (aa : Option Addr) (cc : Nat), e = .returned (.tuple #[.slice aa N cc, .int .i64 C]) ∧ Below W.heap.size W w' ∧ Own noteP w' aa xs (fun b => W.heap.size ≤ b ∧ b < w'.heap.size) ∧ xs.map NC.p = P) := hidP (fun a W h => (specNotes_any a l.length l hs (Nat.le_refl _) hl W h).mono (fun e w' h => by
    obtain ⟨xs, aa, cc, e1, e2, e3, e4⟩ := h
    have hx : xs.length = N := by rw [← hN, ← hP, ← e4]; simp
    rw [hC, hx] at e1
    rw [hP] at e4
    exact ⟨xs, aa, cc, e1, e2, e3, e4⟩))
  have HI : Hid (∀ (a : Option Addr) (W : World), Below w.heap.size w W → At W a l → Calls Tryd.prog 6 #[.slice a l.length l.length] W fun e w' => ∃ (xs : List NC) (aa : Option Addr) (cc : Nat), e = .returned (.tuple #[.slice aa N cc, .int .i64 C]) ∧ Below W.heap.size W w' ∧ Own noteP w' aa xs (fun b => W.heap.size ≤ b ∧ b < w'.heap.size) ∧ xs.map NC.p = P) := hidP (fun a W g h => (implNotes_any a l.length l hs (Nat.le_refl _) hl W h (HG.out W g)).mono (fun e w' h => by
    obtain ⟨xs, aa, cc, e1, e2, e3, e4⟩ := h
    have hx : xs.length = N := by rw [← hN, ← hP, ← e4]; simp
    rw [hC, hx] at e1
    rw [hP] at e4
    exact ⟨xs, aa, cc, e1, e2, e3, e4⟩))
  have HL : Hid (∀ xs : List NC, xs.map NC.p = P → xs.length = N ∧ count cN xs ≤ 9437184 ∧ ∀ x ∈ xs, x.l.length ≤ 1048576) := hidP (fun xs e => by
    have hc : count cN xs ≤ 9437184 := by rw [count_p, e]; exact hcP
    refine ⟨by rw [← hN, ← e]; simp, hc, fun x hx => ?_⟩
    have h := count_mem cN xs x hx
    simp only [cN] at h
    omega)
  have HEQ : Hid (∀ (xs ys : List NC) (a b : Option Addr) (c d : Nat) (W : World), xs.map NC.p = P → ys.map NC.p = P → At W a xs → EachN W xs → At W b ys → EachN W ys → Calls Tryd.prog 7 #[.slice a N c, .slice b N d] W fun e w' => e = .returned (.bool true) ∧ Below W.heap.size W w') := hidP (fun xs ys a b c d W e1 e2 h1 h2 h3 h4 => by
    obtain ⟨n1, _, m1⟩ := HL.out xs e1
    have h := eqNoteS_same a b c d xs ys (by omega) (fun x hx => by have := m1 x hx; omega) (e2.trans e1.symm) W h1 h2 h3 h4
    rwa [n1] at h)
  clear hA hgl hle hP' hcP hP hC hN h0
  go_enter Tryd.func3, Tryd.ntmps3
  go_wp2_with fail
  refine (toB_any A cap l hs _ HA.out).mono ?_
  rintro e w1 ⟨rfl, B1, s1, i1, _⟩
  have H1 : Hid (At w1 (some ⟨w.heap.size, 0, none⟩) l) := hidP (.inr ⟨_, _, rfl, s1, i1⟩)
  have B := hidP B1
  clear i1 B1
  go_wp2_with fail
  refine (HS.out _ _ H1.out).mono ?_
  rintro e w2 ⟨xS, aS, cS, rfl, g2, o2, pS⟩
  have SS := hidP o2
  have PS := hidP pS
  replace B := hidP (via0 g2 B.out)
  have z12 := hidP g2.size
  clear o2 pS H1 g2
  go_wp2_with fail
  refine (toB_any A cap l hs _ (HA.out.below B.out)).mono ?_
  rintro e w3 ⟨rfl, g3, s3, i3, t3⟩
  have SX : Hid (Sl w3 (some ⟨w2.heap.size, 0, none⟩) l [w2.heap.size]) := hidP (.inr ⟨w2.heap.size, 0, rfl, rfl, s3, i3, t3⟩)
  have s3' := hidP s3
  replace B := hidP (via0 g3 B.out)
  replace SS := hidP (SS.out.below noteP_firm g3)
  clear g3 i3 t3 s3
  go_wp2_with fail
  refine (HI.out _ _ B.out SX.out.at).mono ?_
  rintro e w4 ⟨xI, aI, cI, rfl, g4, o4, pI⟩
  have SI := hidP o4
  have PI := hidP pI
  have z34 := hidP g4.size
  clear o4 pI
  replace B := hidP (via0 g4 B.out)
  replace SS := hidP (SS.out.below noteP_firm g4)
  replace SX := hidP (SX.out.below g4)
  clear g4
  have hw := hidP (show w.heap.size ≤ w1.heap.size from by omega)
  go_wp2_with fail
  refine (HEQ.out xI xS aI aS cI cS _ PI.out PS.out SI.out.at (noteP_each SI.out) SS.out.at (noteP_each SS.out)).mono ?_
  rintro e w5 ⟨rfl, g5⟩
  replace B := hidP (via0 g5 B.out)
  replace SS := hidP (SS.out.below noteP_firm g5)
  replace SI := hidP (SI.out.below noteP_firm g5)
  replace SX := hidP (SX.out.below g5)
  clear g5
  go_wp2_with fail
  refine (toB_any A cap l hs _ (HA.out.below B.out)).mono ?_
  rintro e w6 ⟨rfl, g6, s6, i6, _⟩
  have H6 : Hid (At w6 (some ⟨w5.heap.size, 0, none⟩) l) := hidP (.inr ⟨_, _, rfl, s6, i6⟩)
  replace B := hidP (via0 g6 B.out)
  replace SS := hidP (SS.out.below noteP_firm g6)
  replace SI := hidP (SI.out.below noteP_firm g6)
  replace SX := hidP (SX.out.below g6)
  clear g6 i6 s6
  go_wp2_with fail
  refine (eqB_same _ _ _ _ l (by omega) _ SX.out.at H6.out).mono ?_
  rintro e w7 ⟨rfl, g7⟩
  replace B := hidP (via0 g7 B.out)
  replace SS := hidP (SS.out.below noteP_firm g7)
  replace SI := hidP (SI.out.below noteP_firm g7)
  replace SX := hidP (SX.out.below g7)
  clear g7 H6
  go_wp2_with fail
  refine (markSl_any _ l.length l [w2.heap.size] (by omega) _ SX.out).mono ?_
  rintro e w8 ⟨rfl, o8, -⟩
  have kk : ¬ (1 : Int) + (l.length : Int) < 0 := by omega
  have k8 := Offp.of_off o8
  replace B := hidP (B.out.trans (o8.toBelow (fun y hy => by have := hw.out; have := z12.out; simp at hy; omega) B.out.size))
  replace SS := hidP (SS.out.offp noteP_firm k8 (fun y hy e => by have := hy.2; simp at e; omega))
  replace SI := hidP (SI.out.offp noteP_firm k8 (fun y hy e => by have := hy.1; have := s3'.out; simp at e; omega))
  clear o8 k8 SX
  generalize (1 : Int) + (l.length : Int) = kz at kk ⊢
  go_wp2_with fail
  refine (HEQ.out xI xS aI aS cI cS _ PI.out PS.out SI.out.at (noteP_each SI.out) SS.out.at (noteP_each SS.out)).mono ?_
  rintro e w9 ⟨rfl, g9⟩
  replace B := hidP (via0 g9 B.out)
  replace SS := hidP (SS.out.below noteP_firm g9)
  replace SI := hidP (SI.out.below noteP_firm g9)
  clear g9
  obtain ⟨nI, cI', mI⟩ := HL.out xI PI.out
  have HM := hidP (markOwn aI cI xI _ (by omega) (by omega) mI _ SI.out)
  rw [nI] at HM
  have mm : ¬ (1 : Int) + (count cN xI : Int) < 0 := by omega
  have HH : Hid (∀ (W : World), Own noteP W aI (marked mN cN xI 1) (fun b => w3.heap.size ≤ b ∧ b < w4.heap.size) → Calls Tryd.prog 11 #[.slice aI N cI, .int .i64 1] W fun e w' => e = .returned (.int .i64 (1 + (count cN xI : Int))) ∧ Below W.heap.size W w') := hidP (fun W h => by
    have q := heldNoteS_any aI cI xI 1 (by omega) (by omega) (by omega) (by omega) mI W h.at (noteP_each h)
    rwa [nI] at q)
  clear nI cI' mI
  go_wp2_with fail
  refine HM.out.mono ?_
  rintro e w10 ⟨rfl, k10, o10⟩
  replace B := hidP (B.out.trans (k10.toBelow (fun y hy => by have := hy.1; have := s3'.out; have := hw.out; have := z12.out; omega) B.out.size))
  replace SS := hidP (SS.out.offp noteP_firm k10 (fun y hy e => by have := hy.2; have := e.1; have := s3'.out; omega))
  have SM := hidP o10
  clear k10 o10 SI HM
  generalize (1 : Int) + (count cN xI : Int) = mz at mm HH ⊢
  go_wp2_with fail
  refine (HH.out _ SM.out).mono ?_
  rintro e w11 ⟨rfl, g11⟩
  replace B := hidP (via0 g11 B.out)
  replace SS := hidP (SS.out.below noteP_firm g11)
  replace SM := hidP (SM.out.below noteP_firm g11)
  clear g11
  go_wp2_with fail
  refine (toB_any A cap l hs _ (HA.out.below B.out)).mono ?_
  rintro e w12 ⟨rfl, g12, s12, i12, _⟩
  have H12 : Hid (At w12 (some ⟨w11.heap.size, 0, none⟩) l) := hidP (.inr ⟨_, _, rfl, s12, i12⟩)
  replace B := hidP (via0 g12 B.out)
  replace SS := hidP (SS.out.below noteP_firm g12)
  replace SM := hidP (SM.out.below noteP_firm g12)
  clear g12 i12 s12
  go_wp2_with fail
  refine (HI.out _ _ B.out H12.out).mono ?_
  rintro e w13 ⟨xH, aH, cH, rfl, g13, o13, pH⟩
  have SH := hidP o13
  have PH := hidP pH
  clear o13 pH
  replace B := hidP (via0 g13 B.out)
  replace SS := hidP (SS.out.below noteP_firm g13)
  replace SM := hidP (SM.out.below noteP_firm g13)
  clear g13 H12
  go_wp2_with fail
  refine (HEQ.out xH xS aH aS cH cS _ PH.out PS.out SH.out.at (noteP_each SH.out) SS.out.at (noteP_each SS.out)).mono ?_
  rintro e w14 ⟨rfl, g14⟩
  replace B := hidP (via0 g14 B.out)
  replace SM := hidP (SM.out.below noteP_firm g14)
  clear g14 SH SS
  go_wp2_with fail
  refine (HH.out _ SM.out).mono ?_
  rintro e w15 ⟨rfl, g15⟩
  replace B := hidP (via0 g15 B.out)
  clear g15
  go_wp2
  go_ret
  exact ⟨rfl, B.out⟩

theorem et : Tryd.prog.globalNamed "errors.errorType" = some 0 := by kernel_rfl
theorem rt : (Tryd.prog.cutTypes.find? (·.1 == "internal/reflectlite.rtype")).map (·.2) = some 102 := by kernel_rfl
theorem oneRow : ((List.range 156).filter fun t => Tryd.prog.rowNamed t [101, 114, 114, 111, 114]) = [40] := by kernel_rfl
theorem tsize : Tryd.prog.types.size = 156 := by kernel_rfl
/-- The listed variable's one cell. -/
theorem handle_of_laid {W : World} (h : laidMetH Tryd.prog Rows.fnExactNotesRow.laid W) : W.cell? ⟨0, 0, none⟩ = some (.iface 102 (.agg #[.pointer (some ⟨1, 40, none⟩)])) := by
  have h' : laidMet Tryd.prog [] W ∧ handlesMet Tryd.prog Rows.fnExactNotesRow.laid W := h
  obtain ⟨name, u, ty, e1, e2, e3, e4, e5⟩ := h'.2 _ (List.mem_singleton.2 rfl)
  have en : name = [101, 114, 114, 111, 114] := (Option.some.inj e1).symm
  subst en
  obtain rfl := Option.some.inj (rt.symm.trans e2)
  have hm : ty ∈ (List.range 156).filter fun t => Tryd.prog.rowNamed t [101, 114, 114, 111, 114] := List.mem_filter.2 ⟨List.mem_range.2 (by rw [← tsize]; exact e3), e4⟩
  rw [oneRow] at hm
  obtain rfl := List.mem_singleton.1 hm
  have hh : typeHandle Tryd.prog 40 = .pointer (some ⟨1, 40, none⟩) := by kernel_rfl
  rw [hh] at e5
  simpa using World.var?_cell et e5 0

set_option maxRecDepth 100000 in
theorem contract (H : Type) (enc : TypeId × Value → H) (W : World) (base : Nat) (args : Array Value) (ds gs : List (DataW H)) (before : List MemPlace)
    (hval : ∀ (j : Nat) t v, Tryd.f3.params[j]? = some t → args[j]? = some v → Value.okWide Tryd.prog W .any base t v)
    (hW : DataW.Whole enc Tryd.prog Tryd.f3.params.toList Rows.fnExactNotesSpec.vars false W args.toList ds gs before) (hL : laidMetH Tryd.prog Rows.fnExactNotesRow.laid W) :
    Calls Tryd.prog 3 args W fun e W' => ∃ v, e = .returned v ∧ Rows.fnExactNotesSpec.post enc Tryd.prog Tryd.f3 false true false false W args v W' := by
  have hW' := hW
  obtain ⟨p, q, hA0, hV, rfl, hfz, hnd⟩ := hW
  have hA : DataW.TrodAll enc Tryd.prog W 0 (fun _ => true) true Tryd.f3.params.toList args.toList ds p := hA0
  rw [Tryd.params3] at hA hval
  obtain ⟨v0, vs0, d0, ds0, p0, q0, e0, rfl, rfl, h0, r0⟩ := trodAll_cons hA
  obtain ⟨rfl, rfl, rfl⟩ := trodAll_nil r0
  have e0' : args = #[v0] := by cases args; simp_all
  subst e0'
  obtain ⟨rfl, rfl⟩ := trodVars_none hV
  obtain ⟨f0, g0⟩ := h0
  have hv0 := hval 0 22 v0 rfl rfl
  obtain ⟨a, len, c, rfl⟩ := okWide_slice Tryd.underlying22 hv0
  obtain ⟨A, cap, l, e, hl, hat⟩ := openBs (c := .slice a len c) g0
  rw [e]
  refine (law_any A cap l hl W hat (handle_of_laid hL)).mono fun e W' ⟨he, hb⟩ => ?_
  subst he
  rw [← e]
  exact ⟨_, rfl, post_true laidOut (by kernel_rfl) (by kernel_rfl) Tryd.underlying4 rfl rfl hW' hb⟩

/-- A world for the witness: the settled one, the variable holding what the program's text lays. -/
def laidIn (P : Program) (os : Os) : World :=
  { World.holding P os ⟨#[], #[], []⟩ with heap := (World.holding P os ⟨#[], #[], []⟩).heap.modify 0 fun
      | .cells _ t frozen => .cells #[.iface 102 (.agg #[.pointer (some ⟨1, 40, none⟩)])] t frozen
      | o => o }
theorem laid_met (os : Os) : laidMetH Tryd.prog Rows.fnExactNotesRow.laid ((laidIn Tryd.prog os).forCall (fun _ _ => 0) ⟨#[], #[.slice none 0 0], []⟩).memory :=
  laidMetH_of_parts (laidMet_nil _ _) (by kernel_rfl)
theorem reads (os : Os) {H : Type} (enc : TypeId × Value → H) : ∃ d places, DataW.whole enc Tryd.prog ((laidIn Tryd.prog os).forCall (fun _ _ => 0) ⟨#[], #[.slice none 0 0], []⟩).memory Tryd.f3.params.toList Rows.fnExactNotesSpec.vars false #[Value.slice none 0 0].toList 8 = some ([d], [], places) :=
  ⟨.nil, [], by kernel_rfl⟩

set_option maxRecDepth 100000 in
theorem lifted (os : Os) (started : os.Started) (H : Type) (enc : TypeId × Value → H) (F : Stop.Interp) :
    ReturnsInHanded {} Tryd.checked os 3 .any ((OpenSpec.ofChange Rows.fnExactNotesSpec).preRow enc Tryd.prog Tryd.f3 Rows.fnExactNotesRow.domain false Rows.fnExactNotesRow.laid) (((OpenSpec.ofChange Rows.fnExactNotesSpec).at F).post enc Tryd.prog Tryd.f3 false true false false) := by
  obtain ⟨d, places, hx⟩ := reads os enc
  refine returnsInHanded_of_row (C := Tryd.checked) (s := OpenSpec.ofChange Rows.fnExactNotesSpec) own started (by kernel_rfl) Tryd.func3
    (witness_row_at (enc := enc) (C := Tryd.checked) false (laidIn Tryd.prog os) #[.slice none 0 0] rfl (by kernel_rfl) (by kernel_rfl) (by kernel_rfl)
      (OpenSpec.preRow_of_cond 8 hx (by kernel_rfl) (fun k hk => by cases hk) (by kernel_rfl) (laid_met os))) ?_
  intro W base args ds gs before hval hW _ _ _ hL _ _
  exact contract H enc W base args ds gs before hval hW hL

theorem said : Rows.FnExactNotesSaid :=
  OpenClaim.holds_of_cond 3 Tryd.f3 rfl rfl rfl rfl rfl rfl rfl ⟨rfl, rfl, rfl, rfl, rfl⟩ rfl rfl rfl rfl rfl (by kernel_rfl) Tryd.func3 (by kernel_rfl)
    (of_decide_eq_true (by kernel_rfl)) (by unfold Func.isWrapper; first | (rw [if_pos (by decide +kernel)]; kernel_rfl) | (rw [if_neg (by decide +kernel)]; exact ⟨rfl, rfl⟩))
    (fun os started H enc _ F => by rw [OpenClaim.pre_eq_preRow]; exact lifted os started H enc F)

theorem plain (f : FuncId) (fn : Func) (hf : Tryd.pinned.checked.prog.funcNamed "loop.example/g00393/laws.FnExactNotes" = some f) (hfn : Tryd.pinned.checked.prog.funcs[f]? = some fn) :
    true = Tryd.pinned.checked.prog.looks [] ∧ ∀ (j : Nat) t, fn.params[j]? = some t → Tryd.pinned.checked.prog.wantsStandIn t = false := by
  obtain rfl : f = 3 := Option.some.inj ((show Tryd.prog.funcNamed "loop.example/g00393/laws.FnExactNotes" = some 3 by kernel_rfl).symm.trans hf) |>.symm
  obtain rfl : fn = Tryd.f3 := (Option.some.inj (Tryd.func3.symm.trans hfn)).symm
  refine ⟨by kernel_rfl, fun j t ht => ?_⟩
  rw [Tryd.params3] at ht
  obtain rfl : t = 22 := by simpa using Array.mem_of_getElem? ht
  exact (show Tryd.prog.wantsStandIn 22 = false by kernel_rfl)

theorem card : Rows.FnExactNotesCardSaid :=
  Claim7.holds_tied_plain_at .later [] _ _ _ _ said (fun _ h => by cases h) (by kernel_rfl) (fun _ h => by cases h) fnExactNotes_row_tie rfl ⟨rfl, rfl⟩ (by kernel_rfl) rfl plain (by kernel_rfl)
end Go.Proofs.YtfbbifdfjjkknaaDoor.NotesL
namespace Go.Proofs.YtfbbifdfjjkknaaDoor
theorem notes_holds : Rows.FnExactNotesCardSaid := NotesL.card
end Go.Proofs.YtfbbifdfjjkknaaDoor
