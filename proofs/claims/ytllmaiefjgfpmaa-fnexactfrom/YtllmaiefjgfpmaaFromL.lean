/-
  FnExactFrom: at every input the program's answer is the specification's, entry by entry; what it was handed stays as it was; its answer owns its memory. No condition.
-/
import Derived.Test.YtllmaiefjgfpmaaLogV
import Derived.Test.YtllmaiefjgfpmaaLCut
import Derived.Test.YtllmaiefjgfpmaaLogM
import Derived.ChangeMaps5
namespace Go.Proofs.Ytllmaiefjgfpmaa.From
open Go.ChangeShapes Go.WideShapes Go.ChangeAt Go.RowKit Go.Joins Go.Deep Base Gen
set_option linter.unusedVariables false

theorem own : ownKnob Try.prog.godebug = none := by kernel_rfl
theorem laidOut : laidOutB Try.prog = true := by kernel_rfl
theorem slOne {b : Nat} {w : World} {l : List En} (hb : b < w.heap.size) (hi : In w b 0 l) (ht : w.there b 0 (l.length * 9)) : Sl w (some ⟨b, 0, none⟩) l [b] := .inr ⟨b, 0, rfl, rfl, hb, hi, ht⟩
theorem slCap {n : Nat} (h : n ≤ 1048576) : n ≤ n ∧ n ≤ maxLen := ⟨Nat.le_refl _, by simp [maxLen]; omega⟩
theorem cut_len (base i : Int) (l : List En) (h : l.length ≤ 1048576) : (fromL base i l).length ≤ 3000000 := by
  unfold fromL; split
  · simp
  · simp; omega
/-- Lists in memory of their own: those of G are not those of F. -/
def Apart (F G : List Nat) : Prop := ∀ x ∈ F, x ∉ G
theorem apart_lt {F G : List Nat} {n : Nat} (h : ∀ x ∈ F, x < n) (k : ∀ x ∈ G, n ≤ x) : Apart F G ∧ Apart G F := ⟨fun x hx hg => by have := h x hx; have := k x hg; omega, fun x hx hf => by have := h x hf; have := k x hx; omega⟩

set_option maxRecDepth 100000 in
set_option maxHeartbeats 4000000 in
theorem law_any (base bt ii : Int) (A : Option Addr) (cap : Nat) (l : List En) (hl : l.length ≤ 9223372036854775807) (hr : ∀ x ∈ l, x.right) (hfs : I64 base ∧ I64 bt ∧ I64 ii) (w : World) (hA : At w A l) :
    Calls Try.prog 4 #[.agg #[.int .i64 base, .int .i64 bt, .slice A l.length cap], .int .i64 ii] w fun e w' => e = .returned (.bool true) ∧ Below w.heap.size w w' := by
  have HA : Hid (At w A l) := hA
  have Hr : Hid (∀ x ∈ l, x.fit) := fun x hx => (hr x hx).fit
  have Hf : Hid (I64 base ∧ I64 ii) := ⟨hfs.1, hfs.2.2⟩
  clear hA hr hfs
  go_enter Try.func4, Try.ntmps4
  go_wp2_with fail
  refine (szLog_any base bt A cap l hl Hr.out 1048576 (by omega) (by omega) _ (HA.out.below (alloc0 (Below.refl _ _) _))).mono ?_
  rintro e w1 ⟨⟨r, rfl, hr⟩, g1⟩
  have B1 : Below w.heap.size w w1 := by repeat (first | exact Below.refl _ _ | assumption | refine via0 (by assumption) ?_ | refine Below.drew ?_ | refine alloc0 ?_ _)
  have p := (Blk.new w 34 #[.int .i64 base, .int .i64 bt, .slice A l.length cap]).below g1 (by simp)
  obtain ⟨u0, u1, u2⟩ := p.row3
  have HR := hidP hr
  clear hr g1
  by_cases hsz : r < 0
  · go_wp2
    go_ret
    exact ⟨rfl, B1⟩
  have hlen : Hid (l.length ≤ 1048576) := by
    show l.length ≤ 1048576
    rcases HR.out with h | ⟨_, h⟩
    · omega
    · omega
  have hlen3 : Hid (l.length ≤ 3000000) := by show _ ≤ _; have := hlen.out; omega
  have hL3 : Hid ((fromL base ii l).length ≤ 3000000) := cut_len base ii l hlen.out
  have hS : Hid (∀ (A : Option Addr) (W : World), At W A l → Calls Try.prog 14 #[.agg #[.int .i64 base, .int .i64 bt, .slice A l.length l.length], .int .i64 ii] W fun e w' => ∃ v, e = .returned v ∧ NewSl W.heap.size w' v (fromL base ii l) ∧ Below W.heap.size W w') := fun A W h => specFrom_any base bt ii Hf.out A l.length l hlen3.out (slCap hlen.out) W h
  have hI : Hid (∀ (A : Option Addr) (W : World), At W A l → Calls Try.prog 16 #[.agg #[.int .i64 base, .int .i64 bt, .slice A l.length l.length], .int .i64 ii] W fun e w' => ∃ v, e = .returned v ∧ NewSl W.heap.size w' v (fromL base ii l) ∧ Below W.heap.size W w') := fun A W h => implFrom_any base bt ii Hf.out A l.length l hlen3.out (slCap hlen.out) W h
  generalize fromL base ii l = L at hL3 hS hI
  have hLb := hL3.out
  go_wp2_with fail
  refine (toLog_any base bt A cap l hlen.out _ (HA.out.below B1)).mono ?_
  rintro e w2 ⟨b2, rfl, g2, hb2, hb2', hi2, ht2⟩
  have B2 : Below w.heap.size w w2 := via0 g2 B1
  replace p := p.below g2 p.lt
  have a2 : Hid (At w2 (some ⟨b2, 0, none⟩) l) := (.inr ⟨b2, 0, rfl, hb2', hi2⟩ : At w2 (some ⟨b2, 0, none⟩) l)
  clear hi2 ht2 u0 u1 u2
  obtain ⟨u0, u1, u2⟩ := p.row3
  go_wp2_with fail
  refine (hS.out _ _ a2.out).mono ?_
  rintro e w3 ⟨v3, rfl, n3, g3⟩
  obtain ⟨a3, c3, F3, rfl, -, -, s3, f3⟩ := n3
  have l3 := s3.lt
  have S3 := hidP s3
  have B3 : Below w.heap.size w w3 := via0 g3 B2
  replace p := p.below g3 p.lt
  clear u0 u1 u2 s3 a2
  obtain ⟨u0, u1, u2⟩ := p.row3
  have q3 := p.lt
  go_wp2_with fail
  refine (toLog_any base bt A cap l hlen.out _ (HA.out.below B3)).mono ?_
  rintro e w4 ⟨b4, rfl, g4, hb4, hb4', hi4, ht4⟩
  have B4 : Below w.heap.size w w4 := via0 g4 B3
  replace p := p.below g4 p.lt
  have q4 := p.lt
  have S4 := hidP (slOne hb4' hi4 ht4)
  have S3 := hidP (S3.out.below g4)
  clear hi4 ht4 u0 u1 u2
  obtain ⟨u0, u1, u2⟩ := p.row3
  go_wp2_with fail
  refine (hI.out _ _ (S4.out.at.below (alloc0 (Below.refl _ _) _))).mono ?_
  rintro e w5 ⟨v5, rfl, n5, g5⟩
  obtain ⟨a5, c5, F5, rfl, -, -, s5, f5⟩ := n5
  have S5 := hidP s5
  have l5 := s5.lt
  have f5' : ∀ x ∈ F5, w4.heap.size + 1 ≤ x := by simpa using f5
  have x := (Blk.new w4 39 #[.int .i64 base, .int .i64 bt, .slice (some ⟨b4, 0, none⟩) l.length l.length]).below g5 (by simp)
  have g45 : Below w4.heap.size w4 w5 := via0 g5 (alloc0 (Below.refl _ _) _)
  have B5 : Below w.heap.size w w5 := via0 g45 B4
  replace p := p.below g45 p.lt
  have S3 := hidP (S3.out.below g45)
  have S4 := hidP (S4.out.below g45)
  have hb2s := g2.size
  have hb3s := g3.size
  have hb4s := g4.size
  have hb5s := g5.size
  have a34 : Hid (Apart F3 [b4]) := (apart_lt (n := w3.heap.size) l3 (by simpa using hb4)).1
  have a54 : Hid (Apart F5 [b4]) := (apart_lt (n := w4.heap.size) (by simpa using hb4') (fun x hx => by have := f5' x hx; omega)).2
  have a35 : Hid (Apart F3 F5) := (apart_lt (n := w4.heap.size) (fun x hx => by have := l3 x hx; omega) (fun x hx => by have := f5' x hx; omega)).1
  have k5 : Hid (∀ x ∈ F5, w.heap.size + 1 ≤ x) := fun x hx => by have := f5' x hx; omega
  have xne : Hid (w4.heap.size ∉ F5 ∧ w4.heap.size ∉ [b4] ∧ w.heap.size ∉ F5 ∧ w.heap.size ∉ [b4]) := ⟨fun h => by have := f5' _ h; omega, by simp; omega, fun h => by have := f5' _ h; omega, by simp; omega⟩
  have k4 : Hid (∀ x ∈ [b4], w.heap.size ≤ x) := by show ∀ x ∈ [b4], _; simp; omega
  clear u0 u1 u2 f5 f5' s5 l5 l3 f3 hb2s hb3s hb4s hb5s g45 g2 g3 g4 g5 hb2 hb2'
  obtain ⟨u0, u1, u2⟩ := p.row3
  obtain ⟨t0, t1, t2⟩ := x.row3
  have q5 := p.lt
  have q5' := x.lt
  go_wp2_with fail
  refine (eqEntryS_same _ _ _ _ L (by omega) _ S5.out.at S3.out.at).mono ?_
  rintro e w6 ⟨rfl, g6⟩
  have B6 := via0 g6 B5
  replace p := p.below g6 p.lt
  replace x := x.below g6 x.lt
  have S3 := hidP (S3.out.below g6)
  have S4 := hidP (S4.out.below g6)
  have S5 := hidP (S5.out.below g6)
  clear u0 u1 u2 t0 t1 t2 g6 q5 q5'
  obtain ⟨u0, u1, u2⟩ := p.row3
  obtain ⟨t0, t1, t2⟩ := x.row3
  have q5 := p.lt
  have q5' := x.lt
  go_wp2_with fail
  go_region_held3 (fun w' => w'.cell? ⟨w.heap.size, 0, none⟩ = some (.int .i64 base) ∧ w'.cell? ⟨w.heap.size, 1, none⟩ = some (.int .i64 bt) ∧ w'.cell? ⟨w.heap.size, 2, none⟩ = some (.slice A l.length cap) ∧
      w'.cell? ⟨w4.heap.size, 0, none⟩ = some (.int .i64 base) ∧ w'.cell? ⟨w4.heap.size, 1, none⟩ = some (.int .i64 bt) ∧ w'.cell? ⟨w4.heap.size, 2, none⟩ = some (.slice (some ⟨b4, 0, none⟩) l.length l.length))
    (first | (go_split_ands; refine ⟨?_, ?_, ?_, ?_, ?_, ?_⟩ <;> first | assumption | exact (k1 _ _ (by assumption)).trans (by assumption)) | go_keep)
    (first
      | (go_at_call 15; refine (toLog_any base bt A cap l hlen.out _ (HA.out.below (by repeat (first | exact Below.refl _ _ | assumption | refine via0 (by assumption) ?_ | refine Below.drew ?_ | refine alloc0 ?_ _)))).mono ?_; rintro e w7 ⟨b7, rfl, g7, hb7, hb7', hi7, ht7⟩; obtain ⟨k1, m1⟩ := bcell g7; have s7 := Nat.lt_of_lt_of_le q5 g7.size; have s7' := Nat.lt_of_lt_of_le q5' g7.size; have a7 : Hid (At w7 (some ⟨b7, 0, none⟩) l) := (.inr ⟨b7, 0, rfl, hb7', hi7⟩ : At w7 (some ⟨b7, 0, none⟩) l); clear hi7 ht7)
      | (go_at_call 18; refine (eqLog_same base bt _ _ _ _ l hl _ (S4.out.at.below (via0 (by assumption) (Below.drew (Below.refl _ _)))) a7.out).mono ?_; rintro e w8 ⟨rfl, g8⟩; obtain ⟨k1, m1⟩ := bcell g8))
  have g68 : Below w6.heap.size w6 w8 := by repeat (first | exact Below.refl _ _ | assumption | refine via0 (by assumption) ?_ | refine Below.drew ?_ | refine alloc0 ?_ _)
  have B8 := via0 g68 B6
  replace p := p.below g68 p.lt
  replace x := x.below g68 x.lt
  have S3 := hidP (S3.out.below g68)
  have S4 := hidP (S4.out.below g68)
  have S5 := hidP (S5.out.below g68)
  go_split_ands
  clear a7 g7 g8 g68 hb7 hb7' k1 m1
  clear u0 u1 u2 t0 t1 t2 q5 q5'
  obtain ⟨u0, u1, u2⟩ := p.row3
  obtain ⟨t0, t1, t2⟩ := x.row3
  have q5 := p.lt
  have q5' := x.lt
  go_wp2_with fail
  refine (markLog_any base bt _ _ l hlen3.out 1 (by omega) (by omega) [b4] _ S4.out).mono ?_
  rintro e w9 ⟨rfl, o9, -⟩
  have kk : ¬ (1 : Int) + (l.length : Int) * 9 < 0 := by omega
  have B9 : Below w.heap.size w w9 := B8.trans (o9.toBelow k4.out B8.size)
  replace p := p.off o9 xne.out.2.2.2
  replace x := x.off o9 xne.out.2.1
  have S3 := hidP (S3.out.off o9 a34.out)
  have S5 := hidP (S5.out.off o9 a54.out)
  clear u0 u1 u2 t0 t1 t2 q5 q5' o9 S4 a34 a54
  obtain ⟨u0, u1, u2⟩ := p.row3
  have q5 := p.lt
  generalize (1 : Int) + (l.length : Int) * 9 = kz at kk ⊢
  go_wp2_with fail
  refine (eqEntryS_same _ _ _ _ L (by omega) _ S5.out.at S3.out.at).mono ?_
  rintro e w10 ⟨rfl, g10⟩
  have B10 := via0 g10 B9
  replace p := p.below g10 p.lt
  have S3 := hidP (S3.out.below g10)
  have S5 := hidP (S5.out.below g10)
  clear u0 u1 u2 q5 g10
  obtain ⟨u0, u1, u2⟩ := p.row3
  have q5 := p.lt
  go_wp2_with fail
  refine (markE_any _ _ L hL3.out 1 (by omega) (by omega) F5 _ S5.out).mono ?_
  rintro e w11 ⟨rfl, o11, s11⟩
  have S5 := hidP s11
  have B11 : Below w.heap.size w w11 := B10.trans (o11.toBelow (fun x hx => Nat.le_of_succ_le (k5.out x hx)) B10.size)
  replace p := p.off o11 xne.out.2.2.1
  have S3 := hidP (S3.out.off o11 a35.out)
  have hz0 : ¬ (1 : Int) + (L.length : Int) * 9 < 0 := by omega
  clear u0 u1 u2 q5 o11 s11
  obtain ⟨u0, u1, u2⟩ := p.row3
  have q5 := p.lt
  go_wp2_with fail
  refine (heldE_any _ _ L.length hL3.out 1 (by omega) (by omega) F5 _ S5.out).mono ?_
  rintro e w12 ⟨rfl, g12⟩
  have B12 := via0 g12 B11
  replace p := p.below g12 p.lt
  have S3 := hidP (S3.out.below g12)
  have S5 := hidP (S5.out.below g12)
  clear u0 u1 u2 q5 g12
  obtain ⟨u0, u1, u2⟩ := p.row3
  have q5 := p.lt
  have HH : Hid (∀ (W : World), Sl W a5 (marksEn L.length 1) F5 → Calls Try.prog 21 #[.slice a5 L.length c5, .int .i64 1] W fun e w' => e = .returned (.int .i64 (1 + (L.length : Int) * 9)) ∧ Below W.heap.size W w') := fun W h => heldE_any a5 c5 L.length hL3.out 1 (by omega) (by omega) F5 W h
  generalize (1 : Int) + (L.length : Int) * 9 = mz at hz0 HH ⊢
  go_wp2_with fail
  refine (toLog_any base bt A cap l hlen.out _ (HA.out.below B12)).mono ?_
  rintro e w13 ⟨b13, rfl, g13, hb13, hb13', hi13, ht13⟩
  have B13 := via0 g13 B12
  have S3 := hidP (S3.out.below g13)
  have S5 := hidP (S5.out.below g13)
  have a13 : Hid (At w13 (some ⟨b13, 0, none⟩) l) := (.inr ⟨b13, 0, rfl, hb13', hi13⟩ : At w13 (some ⟨b13, 0, none⟩) l)
  clear hi13 ht13 g13 u0 u1 u2 q5 p
  go_wp2_with fail
  refine (hI.out _ _ a13.out).mono ?_
  rintro e w14 ⟨v14, rfl, n14, g14⟩
  obtain ⟨a14, c14, F14, rfl, -, -, s14, f14⟩ := n14
  have S14 := hidP s14
  have B14 := via0 g14 B13
  have S3 := hidP (S3.out.below g14)
  have S5 := hidP (S5.out.below g14)
  clear s14 f14 g14 a13
  go_wp2_with fail
  refine (eqEntryS_same _ _ _ _ L (by omega) _ S14.out.at S3.out.at).mono ?_
  rintro e w15 ⟨rfl, g15⟩
  have B15 := via0 g15 B14
  have S5 := hidP (S5.out.below g15)
  clear g15 S3 S14
  go_wp2_with fail
  refine (HH.out _ S5.out).mono ?_
  rintro e w16 ⟨rfl, g16⟩
  have B16 := via0 g16 B15
  go_wp2
  go_ret
  exact ⟨rfl, B16⟩

set_option maxRecDepth 100000 in
theorem contract (H : Type) (enc : TypeId × Value → H) (W : World) (base : Nat) (args : Array Value) (ds gs : List (DataW H)) (before : List MemPlace)
    (hval : ∀ (j : Nat) t v, Try.f4.params[j]? = some t → args[j]? = some v → Value.okWide Try.prog W .any base t v)
    (hW : DataW.Whole enc Try.prog Try.f4.params.toList Rows.fnExactFromSpec.vars false W args.toList ds gs before) :
    Calls Try.prog 4 args W fun e W' => ∃ v, e = .returned v ∧ Rows.fnExactFromSpec.post enc Try.prog Try.f4 false true false false W args v W' := by
  have hW' := hW
  obtain ⟨p, q, hA0, hV, rfl, hfz, hnd⟩ := hW
  have hA : DataW.TrodAll enc Try.prog W 0 (fun _ => true) true Try.f4.params.toList args.toList ds p := hA0
  rw [Try.params4] at hA hval
  obtain ⟨v0, vs0, d0, ds0, p0, q0, e0, rfl, rfl, h0, r0⟩ := trodAll_cons hA
  obtain ⟨v1, vs1, d1, ds1, p1, q1, rfl, rfl, rfl, h1, r1⟩ := trodAll_cons r0
  obtain ⟨rfl, rfl, rfl⟩ := trodAll_nil r1
  have e0' : args = #[v0, v1] := by cases args; simp_all
  subst e0'
  obtain ⟨rfl, rfl⟩ := trodVars_none hV
  obtain ⟨base, bt, A, cap, l, rfl, i0, i1, hl, hr, hat⟩ := openLog (hval 0 34 v0 rfl rfl) h0
  obtain ⟨ii, rfl, _, _, j1⟩ := open_int Try.underlying3 (hval 1 3 v1 rfl rfl) h1
  refine (law_any base bt ii A cap l hl hr ⟨i0, i1, i64_of j1⟩ W hat).mono fun e W' ⟨he, hb⟩ => ?_
  subst he
  exact ⟨_, rfl, post_true laidOut (by kernel_rfl) (by kernel_rfl) Try.underlying4 rfl rfl hW' hb⟩

set_option maxRecDepth 100000 in
theorem lifted (os : Os) (started : os.Started) (H : Type) (enc : TypeId × Value → H) :
    ReturnsInHanded {} Try.checked os 4 .any (Rows.fnExactFromSpec.pre6 enc Try.prog Try.f4 Rows.fnExactFromRow.domain false) (Rows.fnExactFromSpec.post enc Try.prog Try.f4 false true false false) := by
  refine returnsInHanded_of_change (C := Try.checked) own started (by kernel_rfl) Try.func4
    (ChangeSpec.witness6 (enc := enc) (C := Try.checked) false ⟨#[], #[.agg #[.int .i64 0, .int .i64 0, .slice none 0 0], .int .i64 0], []⟩ 8 (by kernel_rfl) (by kernel_rfl) (by kernel_rfl) (by kernel_rfl)) ?_
  intro W base args ds gs before hval0 hW _ _
  exact contract H enc W base args ds gs before hval0 hW

theorem proved : Rows.FnExactFromSaid :=
  OpenClaim.holds_of_wide 4 Try.f4 rfl rfl rfl rfl rfl rfl rfl ⟨rfl, rfl, rfl, rfl, rfl⟩ rfl rfl rfl rfl rfl (by kernel_rfl) Try.func4 (by kernel_rfl)
    (of_decide_eq_true (by kernel_rfl)) (by unfold Func.isWrapper; first | (rw [if_pos (by decide +kernel)]; kernel_rfl) | (rw [if_neg (by decide +kernel)]; exact ⟨rfl, rfl⟩))
    (fun os started H enc _ => lifted os started H enc)
end Go.Proofs.Ytllmaiefjgfpmaa.From
namespace Go.Proofs.Ytllmaiefjgfpmaa
theorem from_holds : Rows.FnExactFromSaid := From.proved
end Go.Proofs.Ytllmaiefjgfpmaa
