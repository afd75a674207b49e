/-
  FnExactRpcOk: at every input the program's answer is the specification's, and what it was handed stays as it was. No condition.
-/
import Derived.Test.YtenfinilhibmhaaRpOk
import Derived.Test.YtenfinilhibmhaaRpTo
import Derived.ChangeMaps5
namespace Go.Proofs.Ytenfinilhibmhaa.RpcOk
open Go.ChangeShapes Go.WideShapes Go.ChangeAt Go.RowKit Go.Joins Go.Deep Base Gen
set_option linter.unusedVariables false

theorem own : ownKnob Try.prog.godebug = none := by kernel_rfl
theorem laidOut : laidOutB Try.prog = true := by kernel_rfl

set_option maxRecDepth 100000 in
set_option maxHeartbeats 4000000 in
theorem law_any (size kind frm too term index iterm commit : Int) (ok : Bool) (snap : ByteArray) (hsn : snap.size ≤ 9223372036854775807) (A : Option Addr) (cap : Nat) (l : List En) (hl : l.length ≤ 9223372036854775807) (hr : ∀ x ∈ l, x.right) (w : World) (hA : At w A l) :
    Calls Try.prog 3 #[.agg #[.int .i64 kind, .int .i64 frm, .int .i64 too, .int .i64 term, .int .i64 index, .int .i64 iterm, .int .i64 commit, .slice A l.length cap, .bool ok, .string snap], .int .i64 size] w fun e w' => e = .returned (.bool true) ∧ Below w.heap.size w w' := by
  have HA : Hid (At w A l) := hA
  have Hr : Hid (∀ x ∈ l, x.fit) := fun x hx => (hr x hx).fit
  clear hA hr
  go_enter Try.func3, Try.ntmps3
  go_wp2_with fail
  refine (szRpc_any kind frm too term index iterm commit ok snap hsn A cap l hl Hr.out 1048576 (by omega) (by omega) _ (HA.out.below (alloc0 (Below.refl _ _) _))).mono ?_
  rintro e w1 ⟨⟨r, rfl, hr⟩, g1⟩
  have B1 : Below w.heap.size w w1 := by repeat (first | exact Below.refl _ _ | assumption | refine via0 (by assumption) ?_ | refine Below.drew ?_ | refine alloc0 ?_ _)
  have p1 := (Blk.new w 24 #[.int .i64 kind, .int .i64 frm, .int .i64 too, .int .i64 term, .int .i64 index, .int .i64 iterm, .int .i64 commit, .slice A l.length cap, .bool ok, .string snap]).below g1 (by simp)
  obtain ⟨u0, u1, u2, u3, u4, u5, u6, u7, u8, u9⟩ := p1.row10
  have q1 := p1.lt
  have HR := hidP hr
  clear hr g1
  by_cases hsz : r < 0
  · go_wp2
    go_ret
    exact ⟨rfl, B1⟩
  have hlen : Hid (l.length ≤ 1048576) := by
    show l.length ≤ 1048576
    rcases HR.out with h | ⟨_, h⟩
    · omega
    · omega
  have hlen3 : Hid (l.length ≤ 3000000) := by show _ ≤ _; have := hlen.out; omega
  go_wp2_with fail
  refine (toRpc_any kind frm too term index iterm commit ok snap A cap l hlen.out _ (HA.out.below B1)).mono ?_
  rintro e w2 ⟨b2, rfl, g2, hb2, hb2', hi2, ht2⟩
  have B2 : Below w.heap.size w w2 := via0 g2 B1
  have p2 := p1.below g2 p1.lt
  have a2 : Hid (At w2 (some ⟨b2, 0, none⟩) l) := (.inr ⟨b2, 0, rfl, hb2', hi2⟩ : At w2 (some ⟨b2, 0, none⟩) l)
  clear hi2 ht2 u0 u1 u2 u3 u4 u5 u6 u7 u8 u9
  obtain ⟨u0, u1, u2, u3, u4, u5, u6, u7, u8, u9⟩ := p2.row10
  go_wp2_with fail
  refine (specRpcOk_any size kind frm too term index iterm commit ok snap hsn _ _ l hlen3.out Hr.out _ a2.out).mono ?_
  rintro e w3 ⟨rfl, g3⟩
  generalize hX0 : rpcB size kind frm too term index iterm commit l snap = x0 at *
  have B3 : Below w.heap.size w w3 := via0 g3 B2
  have p3 := p2.below g3 p2.lt
  clear u0 u1 u2 u3 u4 u5 u6 u7 u8 u9
  obtain ⟨u0, u1, u2, u3, u4, u5, u6, u7, u8, u9⟩ := p3.row10
  have q3 := p3.lt
  go_wp2_with fail
  refine (toRpc_any kind frm too term index iterm commit ok snap A cap l hlen.out _ (HA.out.below B3)).mono ?_
  rintro e w4 ⟨b4, rfl, g4, hb4, hb4', hi4, ht4⟩
  have B4 : Below w.heap.size w w4 := via0 g4 B3
  have p4 := p3.below g4 p3.lt
  have q4 := p4.lt
  have a4 : Hid (At w4 (some ⟨b4, 0, none⟩) l) := (.inr ⟨b4, 0, rfl, hb4', hi4⟩ : At w4 (some ⟨b4, 0, none⟩) l)
  clear hi4 ht4 u0 u1 u2 u3 u4 u5 u6 u7 u8 u9
  obtain ⟨u0, u1, u2, u3, u4, u5, u6, u7, u8, u9⟩ := p4.row10
  go_wp2_with fail
  refine (implRpcOk_any size kind frm too term index iterm commit ok snap hsn _ _ l hlen3.out Hr.out _ (a4.out.below (alloc0 (Below.refl _ _) _))).mono ?_
  rintro e w5 ⟨rfl, g5⟩
  try rw [hX0]
  have B5 : Below w.heap.size w w5 := via0 g5 (alloc0 B4 _)
  have p5 := (p4.alloc _).below g5 (p4.alloc _).lt
  have x5 := (Blk.new w4 29 #[.int .i64 kind, .int .i64 frm, .int .i64 too, .int .i64 term, .int .i64 index, .int .i64 iterm, .int .i64 commit, .slice (some ⟨b4, 0, none⟩) l.length l.length, .bool ok, .string snap]).below g5 (by simp)
  have a5 : Hid (At w5 (some ⟨b4, 0, none⟩) l) := a4.out.below (via0 g5 (alloc0 (Below.refl _ _) _))
  have q5 := p5.lt
  have q5' := x5.lt
  clear u0 u1 u2 u3 u4 u5 u6 u7 u8 u9
  obtain ⟨u0, u1, u2, u3, u4, u5, u6, u7, u8, u9⟩ := p5.row10
  obtain ⟨t0, t1, t2, t3, t4, t5, t6, t7, t8, t9⟩ := x5.row10
  clear HR hX0
  cases x0
  all_goals
    go_wp2_with fail
    go_region_held3 (fun w' => w'.cell? ⟨w.heap.size, 0, none⟩ = some (.int .i64 kind) ∧ w'.cell? ⟨w.heap.size, 1, none⟩ = some (.int .i64 frm) ∧ w'.cell? ⟨w.heap.size, 2, none⟩ = some (.int .i64 too) ∧ w'.cell? ⟨w.heap.size, 3, none⟩ = some (.int .i64 term) ∧ w'.cell? ⟨w.heap.size, 4, none⟩ = some (.int .i64 index) ∧ w'.cell? ⟨w.heap.size, 5, none⟩ = some (.int .i64 iterm) ∧ w'.cell? ⟨w.heap.size, 6, none⟩ = some (.int .i64 commit) ∧ w'.cell? ⟨w.heap.size, 7, none⟩ = some (.slice A l.length cap) ∧ w'.cell? ⟨w.heap.size, 8, none⟩ = some (.bool ok) ∧ w'.cell? ⟨w.heap.size, 9, none⟩ = some (.string snap) ∧ w'.cell? ⟨w4.heap.size, 0, none⟩ = some (.int .i64 kind) ∧ w'.cell? ⟨w4.heap.size, 1, none⟩ = some (.int .i64 frm) ∧ w'.cell? ⟨w4.heap.size, 2, none⟩ = some (.int .i64 too) ∧ w'.cell? ⟨w4.heap.size, 3, none⟩ = some (.int .i64 term) ∧ w'.cell? ⟨w4.heap.size, 4, none⟩ = some (.int .i64 index) ∧ w'.cell? ⟨w4.heap.size, 5, none⟩ = some (.int .i64 iterm) ∧ w'.cell? ⟨w4.heap.size, 6, none⟩ = some (.int .i64 commit) ∧ w'.cell? ⟨w4.heap.size, 7, none⟩ = some (.slice (some ⟨b4, 0, none⟩) l.length l.length) ∧ w'.cell? ⟨w4.heap.size, 8, none⟩ = some (.bool ok) ∧ w'.cell? ⟨w4.heap.size, 9, none⟩ = some (.string snap))
      (first | (go_split_ands; refine ⟨?_, ?_, ?_, ?_, ?_, ?_, ?_, ?_, ?_, ?_, ?_, ?_, ?_, ?_, ?_, ?_, ?_, ?_, ?_, ?_⟩ <;> first | assumption | exact (k1 _ _ (by assumption)).trans (by assumption)) | go_keep)
      (first
        | (go_at_call 6; refine (toRpc_any kind frm too term index iterm commit ok snap A cap l hlen.out _ (HA.out.below (by repeat (first | exact Below.refl _ _ | assumption | refine via0 (by assumption) ?_ | refine Below.drew ?_ | refine alloc0 ?_ _)))).mono ?_; rintro e w7 ⟨b7, rfl, g7, hb7, hb7', hi7, ht7⟩; obtain ⟨k1, m1⟩ := bcell g7; have s7 := Nat.lt_of_lt_of_le q5 g7.size; have s7' := Nat.lt_of_lt_of_le q5' g7.size; have a7 : Hid (At w7 (some ⟨b7, 0, none⟩) l) := (.inr ⟨b7, 0, rfl, hb7', hi7⟩ : At w7 (some ⟨b7, 0, none⟩) l); clear hi7 ht7)
        | (go_at_call 8; refine (eqRpc_same kind frm too term index iterm commit ok snap _ _ _ _ l hl _ (a5.out.below (via0 (by assumption) (Below.drew (Below.refl _ _)))) a7.out).mono ?_; rintro e w8 ⟨rfl, g8⟩; obtain ⟨k1, m1⟩ := bcell g8))
    all_goals
      go_wp2
      go_ret
      exact ⟨rfl, by repeat (first | exact Below.refl _ _ | assumption | refine via0 (by assumption) ?_ | refine Below.drew ?_ | refine alloc0 ?_ _)⟩

set_option maxRecDepth 100000 in
theorem contract (H : Type) (enc : TypeId × Value → H) (W : World) (base : Nat) (args : Array Value) (ds gs : List (DataW H)) (before : List MemPlace)
    (hval : ∀ (j : Nat) t v, Try.f3.params[j]? = some t → args[j]? = some v → Value.okWide Try.prog W .any base t v)
    (hW : DataW.Whole enc Try.prog Try.f3.params.toList Rows.fnExactRpcOkSpec.vars false W args.toList ds gs before) :
    Calls Try.prog 3 args W fun e W' => ∃ v, e = .returned v ∧ Rows.fnExactRpcOkSpec.post enc Try.prog Try.f3 false true false false W args v W' := by
  have hW' := hW
  obtain ⟨p, q, hA0, hV, rfl, hfz, hnd⟩ := hW
  have hA : DataW.TrodAll enc Try.prog W 0 (fun _ => true) true Try.f3.params.toList args.toList ds p := hA0
  rw [Try.params3] at hA hval
  obtain ⟨v0, vs0, d0, ds0, p0, q0, e0, rfl, rfl, h0, r0⟩ := trodAll_cons hA
  obtain ⟨v1, vs1, d1, ds1, p1, q1, rfl, rfl, rfl, h1, r1⟩ := trodAll_cons r0
  obtain ⟨rfl, rfl, rfl⟩ := trodAll_nil r1
  have e0' : args = #[v0, v1] := by cases args; simp_all
  subst e0'
  obtain ⟨rfl, rfl⟩ := trodVars_none hV
  obtain ⟨kind, frm, too, term, index, iterm, commit, ok, snap, A, cap, l, rfl, -, -, -, -, -, -, -, hsn, hl, hr, hat⟩ := openRpc (hval 0 24 v0 rfl rfl) h0
  obtain ⟨size, rfl, _, _, j1⟩ := open_int Try.underlying3 (hval 1 3 v1 rfl rfl) h1
  refine (law_any size kind frm too term index iterm commit ok snap hsn A cap l hl hr W hat).mono fun e W' ⟨he, hb⟩ => ?_
  subst he
  exact ⟨_, rfl, post_true laidOut (by kernel_rfl) (by kernel_rfl) Try.underlying4 rfl rfl hW' hb⟩

set_option maxRecDepth 100000 in
theorem lifted (os : Os) (started : os.Started) (H : Type) (enc : TypeId × Value → H) :
    ReturnsInHanded {} Try.checked os 3 .any (Rows.fnExactRpcOkSpec.pre6 enc Try.prog Try.f3 Rows.fnExactRpcOkRow.domain false) (Rows.fnExactRpcOkSpec.post enc Try.prog Try.f3 false true false false) := by
  refine returnsInHanded_of_change (C := Try.checked) own started (by kernel_rfl) Try.func3
    (ChangeSpec.witness6 (enc := enc) (C := Try.checked) false ⟨#[], #[.agg #[.int .i64 0, .int .i64 0, .int .i64 0, .int .i64 0, .int .i64 0, .int .i64 0, .int .i64 0, .slice none 0 0, .bool false, .string ⟨#[]⟩], .int .i64 0], []⟩ 8 (by kernel_rfl) (by kernel_rfl) (by kernel_rfl) (by kernel_rfl)) ?_
  intro W base args ds gs before hval0 hW _ _
  exact contract H enc W base args ds gs before hval0 hW

theorem proved : Rows.FnExactRpcOkSaid :=
  OpenClaim.holds_of_wide 3 Try.f3 rfl rfl rfl rfl rfl rfl rfl ⟨rfl, rfl, rfl, rfl, rfl⟩ rfl rfl rfl rfl rfl (by kernel_rfl) Try.func3 (by kernel_rfl)
    (of_decide_eq_true (by kernel_rfl)) (by unfold Func.isWrapper; first | (rw [if_pos (by decide +kernel)]; kernel_rfl) | (rw [if_neg (by decide +kernel)]; exact ⟨rfl, rfl⟩))
    (fun os started H enc _ => lifted os started H enc)
end Go.Proofs.Ytenfinilhibmhaa.RpcOk
namespace Go.Proofs.Ytenfinilhibmhaa
theorem rpcOk_holds : Rows.FnExactRpcOkSaid := RpcOk.proved
end Go.Proofs.Ytenfinilhibmhaa
