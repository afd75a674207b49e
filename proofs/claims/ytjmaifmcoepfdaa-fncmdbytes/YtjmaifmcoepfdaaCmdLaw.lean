/-
  FnCmdBytes: at every code the drawn commands are read from their bytes as they were, and bytes that are read are those of what was read. No condition.
-/
import Derived.Test.YtjmaifmcoepfdaaCmBack
import Derived.Test.YtjmaifmcoepfdaaDrawCm
import Derived.Deep.CutRange
import Derived.ChangeMaps5
namespace Go.Proofs.Ytjmaifmcoepfdaa.CmdLaw
open Go.ChangeShapes Go.WideShapes Go.ChangeAt Go.RowKit Go.Joins Go.Deep Base Gen
set_option linter.unusedVariables false
set_option linter.unusedSimpArgs false

theorem own : ownKnob Try.prog.godebug = none := by kernel_rfl
theorem laidOut : laidOutB Try.prog = true := by kernel_rfl
theorem below_drew {n : Nat} {a b : World} (h : Below n a b) : Below n a b.drew := h.drew
theorem bigB_any (A : Option Addr) (n cap : Nat) (hn : n ≤ 9223372036854775807) (w : World) :
    Calls Try.prog 9 #[.slice A n cap] w fun e w' => e = .returned (.bool (decide ((1048576 : Int) < (n : Int)))) ∧ w' = w := by
  go_enter Try.func9, Try.ntmps9
  go_wp2
  go_ret
  exact ⟨rfl, rfl⟩
theorem at_any (A : Option Addr) (cap : Nat) (l : List By) (hl : l.length ≤ 1048576) (hby : ∀ x ∈ l, x.right) (w : World) (hA : At w A l) :
    Calls Try.prog 29 #[.slice A l.length cap, .int .i64 1] w fun e w' => ∃ y : Int, e = .returned (.int .i64 y) ∧ 0 ≤ y ∧ y ≤ 255 ∧ w' = w := by
  by_cases h : 1 < l.length
  · obtain ⟨b, o, rfl, hb, hin⟩ : ∃ b o, A = some ⟨b, o, none⟩ ∧ b < w.heap.size ∧ In w b o l := hA.resolve_left (fun e => by rw [e] at h; simp at h)
    have cx := hin.getBy 1 h
    obtain ⟨h0, h1⟩ := hby l[1] (List.getElem_mem h)
    have hi : (1 : Int) < (l.length : Int) := by omega
    generalize l[1].n = y at *
    go_enter Try.func29, Try.ntmps29
    go_wp2
    go_ret
    exact ⟨y, rfl, h0, h1, rfl⟩
  · have hi : ¬ (1 : Int) < (l.length : Int) := by omega
    have h3 : l.length ≤ 1 := by omega
    have hm : (7 + (l.length : Int)) % 256 = 7 + (l.length : Int) := by omega
    clear hA hby
    go_enter Try.func29, Try.ntmps29
    go_wp2
    go_ret
    exact ⟨_, rfl, by omega, by omega, rfl⟩
theorem blk_under {n : Nat} {W W' : World} {B : Nat} {t : TypeId} {vs : Array Value} (h : Blk W B t vs) (g : Below n W W') (hn : B < n) : Blk W' B t vs := (g.block B hn).trans h
theorem eq_same (x : Cm) (w : World) : (Op.equalIn 10000 35 (.agg #[.int .i64 x.who, .int .i64 x.seq, .int .i64 x.op, .int .i64 x.a, .int .i64 x.b, .int .i64 x.c, .string x.k, .string x.t]) (.agg #[.int .i64 x.who, .int .i64 x.seq, .int .i64 x.op, .int .i64 x.a, .int .i64 x.b, .int .i64 x.c, .string x.k, .string x.t])).run Try.prog w = .ok true w := by
  have u3 := Try.underlying3
  have us := Try.underlying9
  have hS : Try.prog.underlying 35 = some (.struct (Try.prog.fieldsOf 35)) := by kernel_rfl
  rw [show (10000 : Nat) = 9999 + 1 from rfl, run_equalIn_agg w 9999 35 _ _ hS (by kernel_rfl)]
  simp only [Program.fieldsOf, Try.underlying35]
  go_simp

/-- b[j:j+m] as a text. -/
theorem cut_at (a : Option Addr) (c : Nat) (L : List UInt8) (j m : Nat) (h : j + m ≤ L.length) (h1 : L.length ≤ c) (h2 : c ≤ 9223372036854775807) (W0 : World) (hA0 : At W0 a L) :
    ∃ v, (∀ W : World, (Instr.slice 22 (.slice a L.length c) (some (.int .i64 (j : Int))) (some (.int .i64 ((j : Int) + (m : Int)))) none).run Try.prog W = .ok v W) ∧
      ∀ W : World, At W a L → (convert 22 9 v).run Try.prog W = .ok (.string ⟨((L.drop j).take m).toArray⟩) W := by
  by_cases hL : L = []
  · subst hL
    simp only [List.length_nil, Nat.le_zero, Nat.add_eq_zero_iff] at h
    obtain ⟨rfl, rfl⟩ := h
    refine ⟨.slice a 0 c, fun W => ?_, fun W hA => conv_any a c [] W (.inl rfl)⟩
    obtain ⟨i0, hi, hz0, hz1, hz2⟩ := info_parts infoB
    have hsz : ∀ W : World, (sizeOf 5).run Try.prog W = .ok 1 W := fun W => by simp [sizeOf, typeInfo, hi, hz1]
    cases a with
    | none => simp [Instr.slice, run_underlying Try.underlying22, Instr.sliceBounds, Instr.sliceBound, asIntOf, hsz]
    | some a =>
      simp [Instr.slice, run_underlying Try.underlying22, Instr.sliceBounds, Instr.sliceBound, asIntOf, hsz]
      intro _
      rfl
  · obtain ⟨b, o, rfl, _, _⟩ := hA0.resolve_left hL
    obtain ⟨a', hs, hv⟩ := cut_txt (b := b) (o := o) h h1 h2
    refine ⟨_, hs, fun W hA => ?_⟩
    obtain ⟨b', o', e, _, hi⟩ := hA.resolve_left hL
    cases e
    exact hv W hi

set_option maxRecDepth 100000 in
set_option maxHeartbeats 4000000 in
theorem law_any (A : Option Addr) (cap : Nat) (l : List By) (hl : l.length ≤ 9223372036854775807) (hby : ∀ x ∈ l, x.right) (w : World) (hA : At w A l) :
    Calls Try.prog 4 #[.slice A l.length cap] w fun e w' => e = .returned (.bool true) ∧ Below w.heap.size w w' := by
  have HA := hidP hA
  have Hby := hidP hby
  clear hA hby
  by_cases hbig : (1048576 : Int) < (l.length : Int)
  · have hd : decide ((1048576 : Int) < (l.length : Int)) = true := decide_eq_true hbig
    go_enter Try.func4, Try.ntmps4
    go_wp2_with (go_at_call 9; refine (bigB_any A l.length cap hl _).mono ?_; rw [hd]; rintro e w1 ⟨rfl, rfl⟩)
    go_ret
    exact ⟨rfl, Below.refl _ _⟩
  have hd : decide ((1048576 : Int) < (l.length : Int)) = false := decide_eq_false hbig
  have hl1 : l.length ≤ 1048576 := by omega
  go_enter Try.func4, Try.ntmps4
  go_wp2_with fail
  refine (bigB_any A l.length cap hl _).mono ?_
  rw [hd]
  rintro e w0 ⟨rfl, rfl⟩
  clear hd
  go_wp2_with fail
  refine (drawCmdBytes_any A cap l hl1 Hby.out _ HA.out).mono ?_
  rintro e w1 ⟨who, seq, op, a, b, c, k, t, rfl, hk, ht, g1⟩
  have bX := Blk.new w1 35 #[.int .i64 who, .int .i64 seq, .int .i64 op, .int .i64 a, .int .i64 b, .int .i64 c, .string k, .string t]
  have al := alloc0 (Below.refl _ w1) (.cells #[.int .i64 who, .int .i64 seq, .int .i64 op, .int .i64 a, .int .i64 b, .int .i64 c, .string k, .string t] 35)
  have HB := hidP (via0 al g1)
  replace HA := hidP ((HA.out.below g1).below al)
  clear g1 al
  go_wp2_with fail
  refine (implCmdBytes_any who seq op a b c k t (by omega) (by omega) _).mono ?_
  rintro e w2 ⟨aB, cB, rfl, g2, oB⟩
  obtain ⟨hcB1, hcB2⟩ := owns_cap oB
  have HBs := hidP ((fresh_owns oB).at)
  replace bX := bX.below g2 bX.lt
  replace HA := hidP (HA.out.below g2)
  replace HB := hidP (via0 g2 HB.out)
  have HS := hidP (fun W => specCmdBytes_any who seq op a b c k t (by omega) (by omega) W)
  have hlB : (cmO who seq op a b c k t).length ≤ 100 := cmO_100 who seq op a b c k t
  have hB1 : Hid (CmdOk.okB who seq op a b c k t = true → 0 < (cmO who seq op a b c k t).length ∧ ∀ r, ofC (cmO who seq op a b c k t ++ r) 0 = some (⟨who, seq, op, a, b, c, k, t⟩, (cmO who seq op a b c k t).length)) := hidP (fun h => by
    have e : cmO who seq op a b c k t = Cm.bytes ⟨who, seq, op, a, b, c, k, t⟩ := by unfold cmO; rw [if_pos h]; rfl
    refine ⟨?_, fun r => by rw [e]; exact ofC_bytes (x := ⟨who, seq, op, a, b, c, k, t⟩) h r⟩
    rw [e]
    have := numB_pos t.size
    simp only [Cm.bytes, cmB, List.length_append, txtB_length]
    omega)
  have hB0 : Hid (CmdOk.okB who seq op a b c k t = false → (cmO who seq op a b c k t).length = 0) := hidP (fun h => by unfold cmO; rw [if_neg (by rw [h]; simp)]; rfl)
  generalize cmO who seq op a b c k t = Bs at *
  generalize w1.heap.size = X at *
  clear g2 oB
  go_wp2_with fail
  refine (drawCmdOf_any A cap l hl1 Hby.out _ HA.out).mono ?_
  rintro e w3 ⟨R, aR, cR, i, rfl, hR1, hR2, hR3, hatR, hi64, g3⟩
  obtain ⟨x, N, O, hT, hxk, hxt, hF⟩ := formC R i
  have HG := hidP (fun W h => implCmdOf_any aR cR R (by omega) hR2 hR3 i hi64 W h)
  have HGs := hidP (fun W h => specCmdOf_any aR cR R (by omega) hR2 hR3 i hi64 W h)
  rw [hT] at HG HGs
  unfold Cm.v at HG HGs
  have HF := hidP hF
  have HR := hidP hatR
  replace bX := bX.below g3 bX.lt
  replace HA := hidP (HA.out.below g3)
  replace HBs := hidP (HBs.out.below g3)
  replace HB := hidP (via0 g3 HB.out)
  clear hT hF hatR g3
  go_wp2_with fail
  refine (HG.out _ HR.out).mono ?_
  rintro e w4 ⟨rfl, g4⟩
  have al := alloc0 (Below.refl _ w4) (.cells #[.int .i64 x.who, .int .i64 x.seq, .int .i64 x.op, .int .i64 x.a, .int .i64 x.b, .int .i64 x.c, .string x.k, .string x.t] 35)
  have bD := Blk.new w4 35 #[.int .i64 x.who, .int .i64 x.seq, .int .i64 x.op, .int .i64 x.a, .int .i64 x.b, .int .i64 x.c, .string x.k, .string x.t]
  replace bX := (bX.below g4 bX.lt).alloc (.cells #[.int .i64 x.who, .int .i64 x.seq, .int .i64 x.op, .int .i64 x.a, .int .i64 x.b, .int .i64 x.c, .string x.k, .string x.t] 35)
  replace HA := hidP ((HA.out.below g4).below al)
  replace HBs := hidP ((HBs.out.below g4).below al)
  replace HR := hidP ((HR.out.below g4).below al)
  replace HB := hidP (via0 al (via0 g4 HB.out))
  clear g4 al HG
  go_wp2_with fail
  refine (HGs.out _ HR.out).mono ?_
  rintro e w5 ⟨rfl, g5⟩
  generalize w4.heap.size = D at *
  have al := alloc0 (Below.refl _ w5) (.cells #[.int .i64 x.who, .int .i64 x.seq, .int .i64 x.op, .int .i64 x.a, .int .i64 x.b, .int .i64 x.c, .string x.k, .string x.t] 35)
  have bE := Blk.new w5 35 #[.int .i64 x.who, .int .i64 x.seq, .int .i64 x.op, .int .i64 x.a, .int .i64 x.b, .int .i64 x.c, .string x.k, .string x.t]
  replace bX := (bX.below g5 bX.lt).alloc (.cells #[.int .i64 x.who, .int .i64 x.seq, .int .i64 x.op, .int .i64 x.a, .int .i64 x.b, .int .i64 x.c, .string x.k, .string x.t] 35)
  replace bD := (bD.below g5 bD.lt).alloc (.cells #[.int .i64 x.who, .int .i64 x.seq, .int .i64 x.op, .int .i64 x.a, .int .i64 x.b, .int .i64 x.c, .string x.k, .string x.t] 35)
  replace HA := hidP ((HA.out.below g5).below al)
  replace HBs := hidP ((HBs.out.below g5).below al)
  replace HR := hidP ((HR.out.below g5).below al)
  replace HB := hidP (via0 al (via0 g5 HB.out))
  clear g5 al HGs
  go_wp2_with fail
  generalize w5.heap.size = E at *
  generalize w5.alloc (.cells #[.int .i64 x.who, .int .i64 x.seq, .int .i64 x.op, .int .i64 x.a, .int .i64 x.b, .int .i64 x.c, .string x.k, .string x.t] 35) = W8 at *
  have heq := eq_same x
  have HcB : Hid (∀ W, Below W8.heap.size W8 W → (convert 22 9 (.slice aB Bs.length cB)).run Try.prog W = .ok (.string ⟨Bs.toArray⟩) W) := hidP (fun W h => conv_any aB cB Bs W (HBs.out.below h))
  have SS : ∀ W, Below W8.heap.size W8 W → (fun W => Below W8.heap.size W8 W ∧ W.cell? ⟨X, 0, none⟩ = some (.int .i64 who) ∧ W.cell? ⟨X, 1, none⟩ = some (.int .i64 seq) ∧ W.cell? ⟨X, 2, none⟩ = some (.int .i64 op) ∧ W.cell? ⟨X, 3, none⟩ = some (.int .i64 a) ∧ W.cell? ⟨X, 4, none⟩ = some (.int .i64 b) ∧ W.cell? ⟨X, 5, none⟩ = some (.int .i64 c) ∧ W.cell? ⟨X, 6, none⟩ = some (.string k) ∧ W.cell? ⟨X, 7, none⟩ = some (.string t) ∧ W.cell? ⟨D, 0, none⟩ = some (.int .i64 x.who) ∧ W.cell? ⟨D, 1, none⟩ = some (.int .i64 x.seq) ∧ W.cell? ⟨D, 2, none⟩ = some (.int .i64 x.op) ∧ W.cell? ⟨D, 3, none⟩ = some (.int .i64 x.a) ∧ W.cell? ⟨D, 4, none⟩ = some (.int .i64 x.b) ∧ W.cell? ⟨D, 5, none⟩ = some (.int .i64 x.c) ∧ W.cell? ⟨D, 6, none⟩ = some (.string x.k) ∧ W.cell? ⟨D, 7, none⟩ = some (.string x.t) ∧ W.cell? ⟨E, 0, none⟩ = some (.int .i64 x.who) ∧ W.cell? ⟨E, 1, none⟩ = some (.int .i64 x.seq) ∧ W.cell? ⟨E, 2, none⟩ = some (.int .i64 x.op) ∧ W.cell? ⟨E, 3, none⟩ = some (.int .i64 x.a) ∧ W.cell? ⟨E, 4, none⟩ = some (.int .i64 x.b) ∧ W.cell? ⟨E, 5, none⟩ = some (.int .i64 x.c) ∧ W.cell? ⟨E, 6, none⟩ = some (.string x.k) ∧ W.cell? ⟨E, 7, none⟩ = some (.string x.t)) W := fun W h => ⟨h, (bX.below h bX.lt).cell (i := 0) rfl, (bX.below h bX.lt).cell (i := 1) rfl, (bX.below h bX.lt).cell (i := 2) rfl, (bX.below h bX.lt).cell (i := 3) rfl, (bX.below h bX.lt).cell (i := 4) rfl, (bX.below h bX.lt).cell (i := 5) rfl, (bX.below h bX.lt).cell (i := 6) rfl, (bX.below h bX.lt).cell (i := 7) rfl, (bD.below h bD.lt).cell (i := 0) rfl, (bD.below h bD.lt).cell (i := 1) rfl, (bD.below h bD.lt).cell (i := 2) rfl, (bD.below h bD.lt).cell (i := 3) rfl, (bD.below h bD.lt).cell (i := 4) rfl, (bD.below h bD.lt).cell (i := 5) rfl, (bD.below h bD.lt).cell (i := 6) rfl, (bD.below h bD.lt).cell (i := 7) rfl, (bE.below h bE.lt).cell (i := 0) rfl, (bE.below h bE.lt).cell (i := 1) rfl, (bE.below h bE.lt).cell (i := 2) rfl, (bE.below h bE.lt).cell (i := 3) rfl, (bE.below h bE.lt).cell (i := 4) rfl, (bE.below h bE.lt).cell (i := 5) rfl, (bE.below h bE.lt).cell (i := 6) rfl, (bE.below h bE.lt).cell (i := 7) rfl⟩
  cases hok : CmdOk.okB who seq op a b c k t with
  | false =>
    obtain rfl : Bs = [] := List.length_eq_zero_iff.1 (hB0.out hok)
    replace HcB : Hid (∀ W, Below W8.heap.size W8 W → (convert 22 9 (.slice aB 0 cB)).run Try.prog W = .ok (.string ⟨#[]⟩) W) := hidP (fun W h => conv_any aB cB [] W (.inl rfl))
    refine wp_region_noPanic ?_
    refine wp_region_held_drew (S := (fun W => Below W8.heap.size W8 W ∧ W.cell? ⟨X, 0, none⟩ = some (.int .i64 who) ∧ W.cell? ⟨X, 1, none⟩ = some (.int .i64 seq) ∧ W.cell? ⟨X, 2, none⟩ = some (.int .i64 op) ∧ W.cell? ⟨X, 3, none⟩ = some (.int .i64 a) ∧ W.cell? ⟨X, 4, none⟩ = some (.int .i64 b) ∧ W.cell? ⟨X, 5, none⟩ = some (.int .i64 c) ∧ W.cell? ⟨X, 6, none⟩ = some (.string k) ∧ W.cell? ⟨X, 7, none⟩ = some (.string t) ∧ W.cell? ⟨D, 0, none⟩ = some (.int .i64 x.who) ∧ W.cell? ⟨D, 1, none⟩ = some (.int .i64 x.seq) ∧ W.cell? ⟨D, 2, none⟩ = some (.int .i64 x.op) ∧ W.cell? ⟨D, 3, none⟩ = some (.int .i64 x.a) ∧ W.cell? ⟨D, 4, none⟩ = some (.int .i64 x.b) ∧ W.cell? ⟨D, 5, none⟩ = some (.int .i64 x.c) ∧ W.cell? ⟨D, 6, none⟩ = some (.string x.k) ∧ W.cell? ⟨D, 7, none⟩ = some (.string x.t) ∧ W.cell? ⟨E, 0, none⟩ = some (.int .i64 x.who) ∧ W.cell? ⟨E, 1, none⟩ = some (.int .i64 x.seq) ∧ W.cell? ⟨E, 2, none⟩ = some (.int .i64 x.op) ∧ W.cell? ⟨E, 3, none⟩ = some (.int .i64 x.a) ∧ W.cell? ⟨E, 4, none⟩ = some (.int .i64 x.b) ∧ W.cell? ⟨E, 5, none⟩ = some (.int .i64 x.c) ∧ W.cell? ⟨E, 6, none⟩ = some (.string x.k) ∧ W.cell? ⟨E, 7, none⟩ = some (.string x.t))) (by kernel_rfl) ?_ (fun hH => ?_)
    · exact SS _ (below_drew (Below.refl _ _))
    refine' wpAnyH_take (i := 0) (v := _) rfl (by kernel_rfl) (by kernel_rfl) (by kernel_rfl) (fun _ _ _ h => h) (Or.inl ⟨by rfl, ?hy1⟩) (by assumption) ?rest1
    case hy1 => (intro w hSw; (try dsimp only at hSw); go_simp <;> with_reducible rfl)
    try simp only [Act.put, List.setIfInBounds_toArray, List.set_cons_zero, List.set_cons_succ, List.getElem_toArray, List.getElem_cons_succ, List.getElem_cons_zero]
    refine' wpAnyH_take (i := 1) (v := _) rfl (by kernel_rfl) (by kernel_rfl) (by kernel_rfl) (fun _ _ _ h => h) (Or.inl ⟨by rfl, ?hy2⟩) (by assumption) ?rest2
    case hy2 => (intro w hSw; (try dsimp only at hSw); go_simp <;> (rw [HcB.out _ hSw.1, Result.andThen_ok] <;> with_reducible rfl))
    try simp only [Act.put, List.setIfInBounds_toArray, List.set_cons_zero, List.set_cons_succ, List.getElem_toArray, List.getElem_cons_succ, List.getElem_cons_zero]
    refine' wpAnyH_take (i := 2) (v := _) rfl (by kernel_rfl) (by kernel_rfl) (by kernel_rfl) (fun _ _ _ h => h) (Or.inl ⟨by rfl, ?hy3⟩) (by assumption) ?rest3
    case hy3 => (intro w hSw; (try dsimp only at hSw); go_simp <;> with_reducible rfl)
    try simp only [Act.put, List.setIfInBounds_toArray, List.set_cons_zero, List.set_cons_succ, List.getElem_toArray, List.getElem_cons_succ, List.getElem_cons_zero]
    refine wpAnyH_ready (rs := [3]) (by kernel_rfl) (by simp) (AllReadyH.cons rfl (fun K hK => ?_) AllReadyH.nil)
    simp only [List.getElem_toArray, List.getElem_cons_succ, List.getElem_cons_zero]
    go_simp
    refine (HS.out _).mono ?_; rintro e w9 ⟨aP, cP, rfl, g9, o9⟩; have hcv : (convert 22 9 (.slice aP 0 cP)).run Try.prog w9 = .ok (.string ⟨#[]⟩) w9 := conv_any aP cP [] w9 (.inl rfl)
    refine hK.out _ _ ?_ (fun hH => ?_)
    · exact SS _ (via0 g9 hH.1)
    clear hK K
    try simp only [Act.put, List.setIfInBounds_toArray, List.set_cons_zero, List.set_cons_succ, List.getElem_toArray, List.getElem_cons_succ, List.getElem_cons_zero]
    refine wpAnyH_ready (rs := [4]) (by kernel_rfl) (by simp) (AllReadyH.cons rfl (fun K hK => ?_) AllReadyH.nil)
    simp only [List.getElem_toArray, List.getElem_cons_succ, List.getElem_cons_zero]
    go_simp
    
    refine hK.out _ _ ?_ (fun hH => ?_)
    · exact hH
    clear hK K
    try simp only [Act.put, List.setIfInBounds_toArray, List.set_cons_zero, List.set_cons_succ, List.getElem_toArray, List.getElem_cons_succ, List.getElem_cons_zero]
    refine' wpAnyH_take (i := 5) (v := _) rfl (by kernel_rfl) (by kernel_rfl) (by kernel_rfl) (fun _ _ _ h => h) (Or.inl ⟨by rfl, ?hy4⟩) (by assumption) ?rest4
    case hy4 => (intro w hSw; (try dsimp only at hSw); go_simp <;> with_reducible rfl)
    try simp only [Act.put, List.setIfInBounds_toArray, List.set_cons_zero, List.set_cons_succ, List.getElem_toArray, List.getElem_cons_succ, List.getElem_cons_zero]
    refine' wpAnyH_take (i := 6) (v := _) rfl (by kernel_rfl) (by kernel_rfl) (by kernel_rfl) (fun _ _ _ h => h) (Or.inl ⟨by rfl, ?hy5⟩) (by assumption) ?rest5
    case hy5 => (intro w hSw; (try dsimp only at hSw); go_simp <;> with_reducible rfl)
    try simp only [Act.put, List.setIfInBounds_toArray, List.set_cons_zero, List.set_cons_succ, List.getElem_toArray, List.getElem_cons_succ, List.getElem_cons_zero]
    refine' wpAnyH_take (i := 7) (v := _) rfl (by kernel_rfl) (by kernel_rfl) (by kernel_rfl) (fun _ _ _ h => h) (Or.inl ⟨by rfl, ?hy6⟩) (by assumption) ?rest6
    case hy6 => (intro w hSw; (try dsimp only at hSw); go_simp <;> with_reducible rfl)
    try simp only [Act.put, List.setIfInBounds_toArray, List.set_cons_zero, List.set_cons_succ, List.getElem_toArray, List.getElem_cons_succ, List.getElem_cons_zero]
    refine' wpAnyH_take (i := 8) (v := _) rfl (by kernel_rfl) (by kernel_rfl) (by kernel_rfl) (fun _ _ _ h => h) (Or.inl ⟨by rfl, ?hy7⟩) (by assumption) ?rest7
    case hy7 => (intro w hSw; (try dsimp only at hSw); go_simp <;> with_reducible rfl)
    try simp only [Act.put, List.setIfInBounds_toArray, List.set_cons_zero, List.set_cons_succ, List.getElem_toArray, List.getElem_cons_succ, List.getElem_cons_zero]
    refine' wpAnyH_take (i := 9) (v := _) rfl (by kernel_rfl) (by kernel_rfl) (by kernel_rfl) (fun _ _ _ h => h) (Or.inl ⟨by rfl, ?hy8⟩) (by assumption) ?rest8
    case hy8 => (intro w hSw; (try dsimp only at hSw); go_simp <;> with_reducible rfl)
    try simp only [Act.put, List.setIfInBounds_toArray, List.set_cons_zero, List.set_cons_succ, List.getElem_toArray, List.getElem_cons_succ, List.getElem_cons_zero]
    refine' wpAnyH_take (i := 10) (v := _) rfl (by kernel_rfl) (by kernel_rfl) (by kernel_rfl) (fun _ _ _ h => h) (Or.inl ⟨by rfl, ?hy9⟩) (by assumption) ?rest9
    case hy9 => (intro w hSw; (try dsimp only at hSw); go_simp <;> with_reducible rfl)
    try simp only [Act.put, List.setIfInBounds_toArray, List.set_cons_zero, List.set_cons_succ, List.getElem_toArray, List.getElem_cons_succ, List.getElem_cons_zero]
    refine wpAnyH_ready (rs := [11]) (by kernel_rfl) (by simp) (AllReadyH.cons rfl (fun K hK => ?_) AllReadyH.nil)
    simp only [List.getElem_toArray, List.getElem_cons_succ, List.getElem_cons_zero]
    go_simp
    clear hcv; refine (CmdOk.impl_any who seq op a b c k t (by omega) (by omega) _).mono ?_; rw [hok]; rintro e w10 ⟨rfl, g10⟩
    refine hK.out _ _ ?_ (fun hH => ?_)
    · exact SS _ (via0 g10 hH.1)
    clear hK K
    try simp only [Act.put, List.setIfInBounds_toArray, List.set_cons_zero, List.set_cons_succ, List.getElem_toArray, List.getElem_cons_succ, List.getElem_cons_zero]
    refine' wpAnyH_take (i := 12) (v := _) rfl (by kernel_rfl) (by kernel_rfl) (by kernel_rfl) (fun _ _ _ h => h) (Or.inl ⟨by rfl, ?hy10⟩) (by assumption) ?rest10
    case hy10 => (intro w hSw; (try dsimp only at hSw); go_simp <;> with_reducible rfl)
    try simp only [Act.put, List.setIfInBounds_toArray, List.set_cons_zero, List.set_cons_succ, List.getElem_toArray, List.getElem_cons_succ, List.getElem_cons_zero]
    refine' wpAnyH_take (i := 13) (v := _) rfl (by kernel_rfl) (by kernel_rfl) (by kernel_rfl) (fun _ _ _ h => h) (Or.inl ⟨by rfl, ?hy11⟩) (by assumption) ?rest11
    case hy11 => (intro w hSw; (try dsimp only at hSw); go_simp <;> with_reducible rfl)
    try simp only [Act.put, List.setIfInBounds_toArray, List.set_cons_zero, List.set_cons_succ, List.getElem_toArray, List.getElem_cons_succ, List.getElem_cons_zero]
    refine' wpAnyH_take (i := 14) (v := _) rfl (by kernel_rfl) (by kernel_rfl) (by kernel_rfl) (fun _ _ _ h => h) (Or.inl ⟨by rfl, ?hy12⟩) (by assumption) ?rest12
    case hy12 => (intro w hSw; (try dsimp only at hSw); go_simp <;> with_reducible rfl)
    try simp only [Act.put, List.setIfInBounds_toArray, List.set_cons_zero, List.set_cons_succ, List.getElem_toArray, List.getElem_cons_succ, List.getElem_cons_zero]
    refine' wpAnyH_take (i := 15) (v := _) rfl (by kernel_rfl) (by kernel_rfl) (by kernel_rfl) (fun _ _ _ h => h) (Or.inl ⟨by rfl, ?hy13⟩) (by assumption) ?rest13
    case hy13 => (intro w hSw; (try dsimp only at hSw); go_simp <;> with_reducible rfl)
    try simp only [Act.put, List.setIfInBounds_toArray, List.set_cons_zero, List.set_cons_succ, List.getElem_toArray, List.getElem_cons_succ, List.getElem_cons_zero]
    refine' wpAnyH_take (i := 16) (v := _) rfl (by kernel_rfl) (by kernel_rfl) (by kernel_rfl) (fun _ _ _ h => h) (Or.inl ⟨by rfl, ?hy14⟩) (by assumption) ?rest14
    case hy14 => (intro w hSw; (try dsimp only at hSw); go_simp <;> with_reducible rfl)
    try simp only [Act.put, List.setIfInBounds_toArray, List.set_cons_zero, List.set_cons_succ, List.getElem_toArray, List.getElem_cons_succ, List.getElem_cons_zero]
    refine' wpAnyH_take (i := 17) (v := _) rfl (by kernel_rfl) (by kernel_rfl) (by kernel_rfl) (fun _ _ _ h => h) (Or.inl ⟨by rfl, ?hy15⟩) (by assumption) ?rest15
    case hy15 => (intro w hSw; (try dsimp only at hSw); go_simp <;> with_reducible rfl)
    try simp only [Act.put, List.setIfInBounds_toArray, List.set_cons_zero, List.set_cons_succ, List.getElem_toArray, List.getElem_cons_succ, List.getElem_cons_zero]
    refine' wpAnyH_take (i := 18) (v := _) rfl (by kernel_rfl) (by kernel_rfl) (by kernel_rfl) (fun _ _ _ h => h) (Or.inl ⟨by rfl, ?hy16⟩) (by assumption) ?rest16
    case hy16 => (intro w hSw; (try dsimp only at hSw); go_simp <;> with_reducible rfl)
    try simp only [Act.put, List.setIfInBounds_toArray, List.set_cons_zero, List.set_cons_succ, List.getElem_toArray, List.getElem_cons_succ, List.getElem_cons_zero]
    refine' wpAnyH_take (i := 19) (v := _) rfl (by kernel_rfl) (by kernel_rfl) (by kernel_rfl) (fun _ _ _ h => h) (Or.inl ⟨by rfl, ?hy17⟩) (by assumption) ?rest17
    case hy17 => (intro w hSw; (try dsimp only at hSw); go_simp <;> with_reducible rfl)
    try simp only [Act.put, List.setIfInBounds_toArray, List.set_cons_zero, List.set_cons_succ, List.getElem_toArray, List.getElem_cons_succ, List.getElem_cons_zero]
    refine' wpAnyH_take (i := 20) (v := _) rfl (by kernel_rfl) (by kernel_rfl) (by kernel_rfl) (fun _ _ _ h => h) (Or.inl ⟨by rfl, ?hy18⟩) (by assumption) ?rest18
    case hy18 => (intro w hSw; (try dsimp only at hSw); go_simp <;> with_reducible rfl)
    try simp only [Act.put, List.setIfInBounds_toArray, List.set_cons_zero, List.set_cons_succ, List.getElem_toArray, List.getElem_cons_succ, List.getElem_cons_zero]
    refine' wpAnyH_take (i := 21) (v := _) rfl (by kernel_rfl) (by kernel_rfl) (by kernel_rfl) (fun _ _ _ h => h) (Or.inl ⟨by rfl, ?hy19⟩) (by assumption) ?rest19
    case hy19 => (intro w hSw; (try dsimp only at hSw); go_simp <;> with_reducible rfl)
    try simp only [Act.put, List.setIfInBounds_toArray, List.set_cons_zero, List.set_cons_succ, List.getElem_toArray, List.getElem_cons_succ, List.getElem_cons_zero]
    refine' wpAnyH_take (i := 22) (v := _) rfl (by kernel_rfl) (by kernel_rfl) (by kernel_rfl) (fun _ _ _ h => h) (Or.inl ⟨by rfl, ?hy20⟩) (by assumption) ?rest20
    case hy20 => (intro w hSw; (try dsimp only at hSw); go_simp <;> with_reducible rfl)
    try simp only [Act.put, List.setIfInBounds_toArray, List.set_cons_zero, List.set_cons_succ, List.getElem_toArray, List.getElem_cons_succ, List.getElem_cons_zero]
    refine' wpAnyH_take (i := 23) (v := _) rfl (by kernel_rfl) (by kernel_rfl) (by kernel_rfl) (fun _ _ _ h => h) (Or.inl ⟨by rfl, ?hy21⟩) (by assumption) ?rest21
    case hy21 => (intro w hSw; (try dsimp only at hSw); go_simp <;> with_reducible rfl)
    try simp only [Act.put, List.setIfInBounds_toArray, List.set_cons_zero, List.set_cons_succ, List.getElem_toArray, List.getElem_cons_succ, List.getElem_cons_zero]
    refine' wpAnyH_take (i := 24) (v := _) rfl (by kernel_rfl) (by kernel_rfl) (by kernel_rfl) (fun _ _ _ h => h) (Or.inl ⟨by rfl, ?hy22⟩) (by assumption) ?rest22
    case hy22 => (intro w hSw; (try dsimp only at hSw); go_simp <;> with_reducible rfl)
    try simp only [Act.put, List.setIfInBounds_toArray, List.set_cons_zero, List.set_cons_succ, List.getElem_toArray, List.getElem_cons_succ, List.getElem_cons_zero]
    refine' wpAnyH_take (i := 25) (v := _) rfl (by kernel_rfl) (by kernel_rfl) (by kernel_rfl) (fun _ _ _ h => h) (Or.inl ⟨by rfl, ?hy23⟩) (by assumption) ?rest23
    case hy23 => (intro w hSw; (try dsimp only at hSw); go_simp <;> with_reducible rfl)
    try simp only [Act.put, List.setIfInBounds_toArray, List.set_cons_zero, List.set_cons_succ, List.getElem_toArray, List.getElem_cons_succ, List.getElem_cons_zero]
    refine' wpAnyH_take (i := 26) (v := _) rfl (by kernel_rfl) (by kernel_rfl) (by kernel_rfl) (fun _ _ _ h => h) (Or.inl ⟨by rfl, ?hy24⟩) (by assumption) ?rest24
    case hy24 => (intro w hSw; (try dsimp only at hSw); go_simp <;> with_reducible rfl)
    try simp only [Act.put, List.setIfInBounds_toArray, List.set_cons_zero, List.set_cons_succ, List.getElem_toArray, List.getElem_cons_succ, List.getElem_cons_zero]
    refine' wpAnyH_take (i := 27) (v := _) rfl (by kernel_rfl) (by kernel_rfl) (by kernel_rfl) (fun _ _ _ h => h) (Or.inl ⟨by rfl, ?hy25⟩) (by assumption) ?rest25
    case hy25 => (intro w hSw; (try dsimp only at hSw); go_simp <;> with_reducible rfl)
    try simp only [Act.put, List.setIfInBounds_toArray, List.set_cons_zero, List.set_cons_succ, List.getElem_toArray, List.getElem_cons_succ, List.getElem_cons_zero]
    refine' wpAnyH_take (i := 28) (v := _) rfl (by kernel_rfl) (by kernel_rfl) (by kernel_rfl) (fun _ _ _ h => h) (Or.inl ⟨by rfl, ?hy26⟩) (by assumption) ?rest26
    case hy26 => (intro w hSw; (try dsimp only at hSw); go_simp <;> with_reducible rfl)
    try simp only [Act.put, List.setIfInBounds_toArray, List.set_cons_zero, List.set_cons_succ, List.getElem_toArray, List.getElem_cons_succ, List.getElem_cons_zero]
    refine wpAnyH_done (by kernel_rfl) ?_ _
    refine NoPanic.normal ?_
    have hB10 := hH.1
    have HAz := hidP (HA.out.below hB10)
    have HBs10 := hidP (HBs.out.below hB10)
    have HR10 := hidP (HR.out.below hB10)
    have HB10 := hidP (via0 hB10 HB.out)
    have bX10 := bX.below hB10 bX.lt
    have bD10 := bD.below hB10 bD.lt
    clear hH hB10 HcB SS HS HA HBs HR HB bX bD bE g9 o9 g10
    go_wp2_with fail
    cases O with
    | false =>
      refine wp_region_noPanic ?_
      refine wp_region_held_drew (S := (fun W => Below w10.heap.size w10 W)) (by kernel_rfl) ?_ (fun hH => ?_)
      · exact below_drew (Below.refl _ _)
      refine' wpAnyH_take (i := 0) (v := _) rfl (by kernel_rfl) (by kernel_rfl) (by kernel_rfl) (fun _ _ _ h => h) (Or.inl ⟨by rfl, ?hy27⟩) (by assumption) ?rest27
      case hy27 => (intro w hSw; (try dsimp only at hSw); go_simp <;> with_reducible rfl)
      try simp only [Act.put, List.setIfInBounds_toArray, List.set_cons_zero, List.set_cons_succ, List.getElem_toArray, List.getElem_cons_succ, List.getElem_cons_zero]
      refine' wpAnyH_take (i := 1) (v := _) rfl (by kernel_rfl) (by kernel_rfl) (by kernel_rfl) (fun _ _ _ h => h) (Or.inl ⟨by rfl, ?hy28⟩) (by assumption) ?rest28
      case hy28 => (intro w hSw; (try dsimp only at hSw); go_simp <;> with_reducible rfl)
      try simp only [Act.put, List.setIfInBounds_toArray, List.set_cons_zero, List.set_cons_succ, List.getElem_toArray, List.getElem_cons_succ, List.getElem_cons_zero]
      refine wpAnyH_take (i := 2) (v := undef) rfl (by kernel_rfl) (by kernel_rfl) (by kernel_rfl) (fun _ _ _ h => h) (Or.inr ⟨by rfl, rfl⟩) (by assumption) ?_
      try simp only [Act.put, List.setIfInBounds_toArray, List.set_cons_zero, List.set_cons_succ, List.getElem_toArray, List.getElem_cons_succ, List.getElem_cons_zero]
      refine wpAnyH_take (i := 3) (v := undef) rfl (by kernel_rfl) (by kernel_rfl) (by kernel_rfl) (fun _ _ _ h => h) (Or.inr ⟨by rfl, rfl⟩) (by assumption) ?_
      try simp only [Act.put, List.setIfInBounds_toArray, List.set_cons_zero, List.set_cons_succ, List.getElem_toArray, List.getElem_cons_succ, List.getElem_cons_zero]
      refine wpAnyH_take (i := 4) (v := undef) rfl (by kernel_rfl) (by kernel_rfl) (by kernel_rfl) (fun _ _ _ h => h) (Or.inr ⟨by rfl, rfl⟩) (by assumption) ?_
      try simp only [Act.put, List.setIfInBounds_toArray, List.set_cons_zero, List.set_cons_succ, List.getElem_toArray, List.getElem_cons_succ, List.getElem_cons_zero]
      refine wpAnyH_take (i := 5) (v := undef) rfl (by kernel_rfl) (by kernel_rfl) (by kernel_rfl) (fun _ _ _ h => h) (Or.inr ⟨by rfl, rfl⟩) (by assumption) ?_
      try simp only [Act.put, List.setIfInBounds_toArray, List.set_cons_zero, List.set_cons_succ, List.getElem_toArray, List.getElem_cons_succ, List.getElem_cons_zero]
      refine wpAnyH_take (i := 6) (v := undef) rfl (by kernel_rfl) (by kernel_rfl) (by kernel_rfl) (fun _ _ _ h => h) (Or.inr ⟨by rfl, rfl⟩) (by assumption) ?_
      try simp only [Act.put, List.setIfInBounds_toArray, List.set_cons_zero, List.set_cons_succ, List.getElem_toArray, List.getElem_cons_succ, List.getElem_cons_zero]
      refine wpAnyH_take (i := 7) (v := undef) rfl (by kernel_rfl) (by kernel_rfl) (by kernel_rfl) (fun _ _ _ h => h) (Or.inr ⟨by rfl, rfl⟩) (by assumption) ?_
      try simp only [Act.put, List.setIfInBounds_toArray, List.set_cons_zero, List.set_cons_succ, List.getElem_toArray, List.getElem_cons_succ, List.getElem_cons_zero]
      refine wpAnyH_take (i := 8) (v := undef) rfl (by kernel_rfl) (by kernel_rfl) (by kernel_rfl) (fun _ _ _ h => h) (Or.inr ⟨by rfl, rfl⟩) (by assumption) ?_
      try simp only [Act.put, List.setIfInBounds_toArray, List.set_cons_zero, List.set_cons_succ, List.getElem_toArray, List.getElem_cons_succ, List.getElem_cons_zero]
      refine wpAnyH_take (i := 9) (v := undef) rfl (by kernel_rfl) (by kernel_rfl) (by kernel_rfl) (fun _ _ _ h => h) (Or.inr ⟨by rfl, rfl⟩) (by assumption) ?_
      try simp only [Act.put, List.setIfInBounds_toArray, List.set_cons_zero, List.set_cons_succ, List.getElem_toArray, List.getElem_cons_succ, List.getElem_cons_zero]
      refine wpAnyH_take (i := 10) (v := undef) rfl (by kernel_rfl) (by kernel_rfl) (by kernel_rfl) (fun _ _ _ h => h) (Or.inr ⟨by rfl, rfl⟩) (by assumption) ?_
      try simp only [Act.put, List.setIfInBounds_toArray, List.set_cons_zero, List.set_cons_succ, List.getElem_toArray, List.getElem_cons_succ, List.getElem_cons_zero]
      refine' wpAnyH_take (i := 11) (v := _) rfl (by kernel_rfl) (by kernel_rfl) (by kernel_rfl) (fun _ _ _ h => h) (Or.inl ⟨by rfl, ?hy29⟩) (by assumption) ?rest29
      case hy29 => (intro w hSw; (try dsimp only at hSw); go_simp <;> with_reducible rfl)
      try simp only [Act.put, List.setIfInBounds_toArray, List.set_cons_zero, List.set_cons_succ, List.getElem_toArray, List.getElem_cons_succ, List.getElem_cons_zero]
      refine wpAnyH_done (by kernel_rfl) ?_ _
      refine NoPanic.normal ?_
      have hz := hH
      have HBz := hidP (via0 hz HB10.out)
      have HBs := hidP (HBs10.out.below hz)
      have HCo := hidP (HAz.out.below hz)
      have bXz := bX10.below hz bX10.lt
      clear hH hz HB10 HBs10 HAz HR10 bX10 bD10
      go_wp2
      go_ret
      exact ⟨rfl, HBz.out⟩
    | true =>
      obtain ⟨j, m, rfl, rfl, hjm, hxok, hcut1⟩ := HF.out rfl
      obtain ⟨v1, hs1, hv1⟩ := cut_at aR cR R j m hjm hR2 hR3 _ HR10.out
      rw [hcut1] at hv1
      have Hv1 : Hid (∀ W, Below w10.heap.size w10 W → (convert 22 9 v1).run Try.prog W = .ok (.string ⟨x.bytes.toArray⟩) W) := hidP (fun W h => hv1 W (HR10.out.below h))
      have hxo : cmO x.who x.seq x.op x.a x.b x.c x.k x.t = x.bytes := by unfold cmO; exact if_pos hxok
      have SS2 : ∀ W, Below w10.heap.size w10 W → (fun W => Below w10.heap.size w10 W ∧ W.cell? ⟨D, 0, none⟩ = some (.int .i64 x.who) ∧ W.cell? ⟨D, 1, none⟩ = some (.int .i64 x.seq) ∧ W.cell? ⟨D, 2, none⟩ = some (.int .i64 x.op) ∧ W.cell? ⟨D, 3, none⟩ = some (.int .i64 x.a) ∧ W.cell? ⟨D, 4, none⟩ = some (.int .i64 x.b) ∧ W.cell? ⟨D, 5, none⟩ = some (.int .i64 x.c) ∧ W.cell? ⟨D, 6, none⟩ = some (.string x.k) ∧ W.cell? ⟨D, 7, none⟩ = some (.string x.t)) W := fun W h => ⟨h, (bD10.below h bD10.lt).cell (i := 0) rfl, (bD10.below h bD10.lt).cell (i := 1) rfl, (bD10.below h bD10.lt).cell (i := 2) rfl, (bD10.below h bD10.lt).cell (i := 3) rfl, (bD10.below h bD10.lt).cell (i := 4) rfl, (bD10.below h bD10.lt).cell (i := 5) rfl, (bD10.below h bD10.lt).cell (i := 6) rfl, (bD10.below h bD10.lt).cell (i := 7) rfl⟩
      clear hv1 hcut1 HF
      refine wp_region_noPanic ?_
      refine wp_region_held_drew (S := (fun W => Below w10.heap.size w10 W ∧ W.cell? ⟨D, 0, none⟩ = some (.int .i64 x.who) ∧ W.cell? ⟨D, 1, none⟩ = some (.int .i64 x.seq) ∧ W.cell? ⟨D, 2, none⟩ = some (.int .i64 x.op) ∧ W.cell? ⟨D, 3, none⟩ = some (.int .i64 x.a) ∧ W.cell? ⟨D, 4, none⟩ = some (.int .i64 x.b) ∧ W.cell? ⟨D, 5, none⟩ = some (.int .i64 x.c) ∧ W.cell? ⟨D, 6, none⟩ = some (.string x.k) ∧ W.cell? ⟨D, 7, none⟩ = some (.string x.t))) (by kernel_rfl) ?_ (fun hH => ?_)
      · exact SS2 _ (below_drew (Below.refl _ _))
      refine' wpAnyH_take (i := 0) (v := _) rfl (by kernel_rfl) (by kernel_rfl) (by kernel_rfl) (fun _ _ _ h => h) (Or.inl ⟨by rfl, ?hy30⟩) (by assumption) ?rest30
      case hy30 => (intro w hSw; (try dsimp only at hSw); go_simp <;> with_reducible rfl)
      try simp only [Act.put, List.setIfInBounds_toArray, List.set_cons_zero, List.set_cons_succ, List.getElem_toArray, List.getElem_cons_succ, List.getElem_cons_zero]
      refine' wpAnyH_take (i := 1) (v := _) rfl (by kernel_rfl) (by kernel_rfl) (by kernel_rfl) (fun _ _ _ h => h) (Or.inl ⟨by rfl, ?hy31⟩) (by assumption) ?rest31
      case hy31 => (intro w hSw; (try dsimp only at hSw); go_simp <;> with_reducible rfl)
      try simp only [Act.put, List.setIfInBounds_toArray, List.set_cons_zero, List.set_cons_succ, List.getElem_toArray, List.getElem_cons_succ, List.getElem_cons_zero]
      refine' wpAnyH_take (i := 2) (v := _) rfl (by kernel_rfl) (by kernel_rfl) (by kernel_rfl) (fun _ _ _ h => h) (Or.inl ⟨by rfl, ?hy32⟩) (by assumption) ?rest32
      case hy32 => (intro w hSw; (try dsimp only at hSw); go_simp <;> with_reducible rfl)
      try simp only [Act.put, List.setIfInBounds_toArray, List.set_cons_zero, List.set_cons_succ, List.getElem_toArray, List.getElem_cons_succ, List.getElem_cons_zero]
      refine' wpAnyH_take (i := 5) (v := _) rfl (by kernel_rfl) (by kernel_rfl) (by kernel_rfl) (fun _ _ _ h => h) (Or.inl ⟨by rfl, ?hy33⟩) (by assumption) ?rest33
      case hy33 => (intro w hSw; (try dsimp only at hSw); go_simp <;> with_reducible rfl)
      try simp only [Act.put, List.setIfInBounds_toArray, List.set_cons_zero, List.set_cons_succ, List.getElem_toArray, List.getElem_cons_succ, List.getElem_cons_zero]
      refine' wpAnyH_take (i := 6) (v := _) rfl (by kernel_rfl) (by kernel_rfl) (by kernel_rfl) (fun _ _ _ h => h) (Or.inl ⟨by rfl, ?hy34⟩) (by assumption) ?rest34
      case hy34 => (intro w hSw; (try dsimp only at hSw); go_simp <;> with_reducible rfl)
      try simp only [Act.put, List.setIfInBounds_toArray, List.set_cons_zero, List.set_cons_succ, List.getElem_toArray, List.getElem_cons_succ, List.getElem_cons_zero]
      refine' wpAnyH_take (i := 7) (v := _) rfl (by kernel_rfl) (by kernel_rfl) (by kernel_rfl) (fun _ _ _ h => h) (Or.inl ⟨by rfl, ?hy35⟩) (by assumption) ?rest35
      case hy35 => (intro w hSw; (try dsimp only at hSw); go_simp <;> with_reducible rfl)
      try simp only [Act.put, List.setIfInBounds_toArray, List.set_cons_zero, List.set_cons_succ, List.getElem_toArray, List.getElem_cons_succ, List.getElem_cons_zero]
      refine' wpAnyH_take (i := 8) (v := _) rfl (by kernel_rfl) (by kernel_rfl) (by kernel_rfl) (fun _ _ _ h => h) (Or.inl ⟨by rfl, ?hy36⟩) (by assumption) ?rest36
      case hy36 => (intro w hSw; (try dsimp only at hSw); go_simp <;> with_reducible rfl)
      try simp only [Act.put, List.setIfInBounds_toArray, List.set_cons_zero, List.set_cons_succ, List.getElem_toArray, List.getElem_cons_succ, List.getElem_cons_zero]
      refine' wpAnyH_take (i := 9) (v := _) rfl (by kernel_rfl) (by kernel_rfl) (by kernel_rfl) (fun _ _ _ h => h) (Or.inl ⟨by rfl, ?hy37⟩) (by assumption) ?rest37
      case hy37 => (intro w hSw; (try dsimp only at hSw); go_simp <;> (rw [Hv1.out _ hSw.1, Result.andThen_ok] <;> with_reducible rfl))
      try simp only [Act.put, List.setIfInBounds_toArray, List.set_cons_zero, List.set_cons_succ, List.getElem_toArray, List.getElem_cons_succ, List.getElem_cons_zero]
      refine wpAnyH_ready (rs := [3]) (by kernel_rfl) (by simp) (AllReadyH.cons rfl (fun K hK => ?_) AllReadyH.nil)
      simp only [List.getElem_toArray, List.getElem_cons_succ, List.getElem_cons_zero]
      go_simp
      refine (implCmdBytes_any x.who x.seq x.op x.a x.b x.c x.k x.t (by omega) (by omega) _).mono ?_; rw [hxo]; rintro e w11 ⟨aQ, cQ, rfl, g11, o11⟩; have hcv := conv_any aQ cQ x.bytes w11 (fresh_owns o11).at
      refine hK.out _ _ ?_ (fun hH => ?_)
      · exact SS2 _ (via0 g11 hH.1)
      clear hK K
      try simp only [Act.put, List.setIfInBounds_toArray, List.set_cons_zero, List.set_cons_succ, List.getElem_toArray, List.getElem_cons_succ, List.getElem_cons_zero]
      refine wpAnyH_ready (rs := [4]) (by kernel_rfl) (by simp) (AllReadyH.cons rfl (fun K hK => ?_) AllReadyH.nil)
      simp only [List.getElem_toArray, List.getElem_cons_succ, List.getElem_cons_zero]
      go_simp
      
      refine hK.out _ _ ?_ (fun hH => ?_)
      · exact hH
      clear hK K
      try simp only [Act.put, List.setIfInBounds_toArray, List.set_cons_zero, List.set_cons_succ, List.getElem_toArray, List.getElem_cons_succ, List.getElem_cons_zero]
      refine' wpAnyH_take (i := 10) (v := _) rfl (by kernel_rfl) (by kernel_rfl) (by kernel_rfl) (fun _ _ _ h => h) (Or.inl ⟨by rfl, ?hy38⟩) (by assumption) ?rest38
      case hy38 => (intro w hSw; (try dsimp only at hSw); go_simp <;> with_reducible rfl)
      try simp only [Act.put, List.setIfInBounds_toArray, List.set_cons_zero, List.set_cons_succ, List.getElem_toArray, List.getElem_cons_succ, List.getElem_cons_zero]
      refine' wpAnyH_take (i := 11) (v := _) rfl (by kernel_rfl) (by kernel_rfl) (by kernel_rfl) (fun _ _ _ h => h) (Or.inl ⟨by rfl, ?hy39⟩) (by assumption) ?rest39
      case hy39 => (intro w hSw; (try dsimp only at hSw); go_simp <;> with_reducible rfl)
      try simp only [Act.put, List.setIfInBounds_toArray, List.set_cons_zero, List.set_cons_succ, List.getElem_toArray, List.getElem_cons_succ, List.getElem_cons_zero]
      refine wpAnyH_done (by kernel_rfl) ?_ _
      refine NoPanic.normal ?_
      have hz := hH.1
      clear hcv
      have HBz := hidP (via0 hz HB10.out)
      have HBs := hidP (HBs10.out.below hz)
      have HCo := hidP (HAz.out.below hz)
      have bXz := bX10.below hz bX10.lt
      clear hH hz HB10 HBs10 HAz HR10 bX10 bD10 g11 o11 SS2 Hv1 hs1
      go_wp2
      go_ret
      exact ⟨rfl, HBz.out⟩
  | true =>
    have hz1 : (0 : Int) < (Bs.length : Int) := by have := (hB1.out hok).1; omega
    have hz2 : ¬ (Bs.length : Int) = 0 := by omega
    have hz3 : 0 < Bs.length := by omega
    have hz4 : ¬ Bs.length = 0 := by omega
    refine wp_region_noPanic ?_
    refine wp_region_held_drew (S := (fun W => Below W8.heap.size W8 W ∧ W.cell? ⟨X, 0, none⟩ = some (.int .i64 who) ∧ W.cell? ⟨X, 1, none⟩ = some (.int .i64 seq) ∧ W.cell? ⟨X, 2, none⟩ = some (.int .i64 op) ∧ W.cell? ⟨X, 3, none⟩ = some (.int .i64 a) ∧ W.cell? ⟨X, 4, none⟩ = some (.int .i64 b) ∧ W.cell? ⟨X, 5, none⟩ = some (.int .i64 c) ∧ W.cell? ⟨X, 6, none⟩ = some (.string k) ∧ W.cell? ⟨X, 7, none⟩ = some (.string t) ∧ W.cell? ⟨D, 0, none⟩ = some (.int .i64 x.who) ∧ W.cell? ⟨D, 1, none⟩ = some (.int .i64 x.seq) ∧ W.cell? ⟨D, 2, none⟩ = some (.int .i64 x.op) ∧ W.cell? ⟨D, 3, none⟩ = some (.int .i64 x.a) ∧ W.cell? ⟨D, 4, none⟩ = some (.int .i64 x.b) ∧ W.cell? ⟨D, 5, none⟩ = some (.int .i64 x.c) ∧ W.cell? ⟨D, 6, none⟩ = some (.string x.k) ∧ W.cell? ⟨D, 7, none⟩ = some (.string x.t) ∧ W.cell? ⟨E, 0, none⟩ = some (.int .i64 x.who) ∧ W.cell? ⟨E, 1, none⟩ = some (.int .i64 x.seq) ∧ W.cell? ⟨E, 2, none⟩ = some (.int .i64 x.op) ∧ W.cell? ⟨E, 3, none⟩ = some (.int .i64 x.a) ∧ W.cell? ⟨E, 4, none⟩ = some (.int .i64 x.b) ∧ W.cell? ⟨E, 5, none⟩ = some (.int .i64 x.c) ∧ W.cell? ⟨E, 6, none⟩ = some (.string x.k) ∧ W.cell? ⟨E, 7, none⟩ = some (.string x.t))) (by kernel_rfl) ?_ (fun hH => ?_)
    · exact SS _ (below_drew (Below.refl _ _))
    refine' wpAnyH_take (i := 0) (v := _) rfl (by kernel_rfl) (by kernel_rfl) (by kernel_rfl) (fun _ _ _ h => h) (Or.inl ⟨by rfl, ?hy40⟩) (by assumption) ?rest40
    case hy40 => (intro w hSw; (try dsimp only at hSw); go_simp <;> with_reducible rfl)
    try simp only [Act.put, List.setIfInBounds_toArray, List.set_cons_zero, List.set_cons_succ, List.getElem_toArray, List.getElem_cons_succ, List.getElem_cons_zero]
    refine' wpAnyH_take (i := 1) (v := _) rfl (by kernel_rfl) (by kernel_rfl) (by kernel_rfl) (fun _ _ _ h => h) (Or.inl ⟨by rfl, ?hy41⟩) (by assumption) ?rest41
    case hy41 => (intro w hSw; (try dsimp only at hSw); go_simp <;> (rw [HcB.out _ hSw.1, Result.andThen_ok] <;> with_reducible rfl))
    try simp only [Act.put, List.setIfInBounds_toArray, List.set_cons_zero, List.set_cons_succ, List.getElem_toArray, List.getElem_cons_succ, List.getElem_cons_zero]
    refine' wpAnyH_take (i := 2) (v := _) rfl (by kernel_rfl) (by kernel_rfl) (by kernel_rfl) (fun _ _ _ h => h) (Or.inl ⟨by rfl, ?hy42⟩) (by assumption) ?rest42
    case hy42 => (intro w hSw; (try dsimp only at hSw); go_simp <;> with_reducible rfl)
    try simp only [Act.put, List.setIfInBounds_toArray, List.set_cons_zero, List.set_cons_succ, List.getElem_toArray, List.getElem_cons_succ, List.getElem_cons_zero]
    refine wpAnyH_ready (rs := [3]) (by kernel_rfl) (by simp) (AllReadyH.cons rfl (fun K hK => ?_) AllReadyH.nil)
    simp only [List.getElem_toArray, List.getElem_cons_succ, List.getElem_cons_zero]
    go_simp
    refine (HS.out _).mono ?_; rintro e w9 ⟨aP, cP, rfl, g9, o9⟩; have hcv := conv_any aP cP Bs w9 (fresh_owns o9).at
    refine hK.out _ _ ?_ (fun hH => ?_)
    · exact SS _ (via0 g9 hH.1)
    clear hK K
    try simp only [Act.put, List.setIfInBounds_toArray, List.set_cons_zero, List.set_cons_succ, List.getElem_toArray, List.getElem_cons_succ, List.getElem_cons_zero]
    refine wpAnyH_ready (rs := [4]) (by kernel_rfl) (by simp) (AllReadyH.cons rfl (fun K hK => ?_) AllReadyH.nil)
    simp only [List.getElem_toArray, List.getElem_cons_succ, List.getElem_cons_zero]
    go_simp
    
    refine hK.out _ _ ?_ (fun hH => ?_)
    · exact hH
    clear hK K
    try simp only [Act.put, List.setIfInBounds_toArray, List.set_cons_zero, List.set_cons_succ, List.getElem_toArray, List.getElem_cons_succ, List.getElem_cons_zero]
    refine' wpAnyH_take (i := 5) (v := _) rfl (by kernel_rfl) (by kernel_rfl) (by kernel_rfl) (fun _ _ _ h => h) (Or.inl ⟨by rfl, ?hy43⟩) (by assumption) ?rest43
    case hy43 => (intro w hSw; (try dsimp only at hSw); go_simp <;> with_reducible rfl)
    try simp only [Act.put, List.setIfInBounds_toArray, List.set_cons_zero, List.set_cons_succ, List.getElem_toArray, List.getElem_cons_succ, List.getElem_cons_zero]
    refine' wpAnyH_take (i := 6) (v := _) rfl (by kernel_rfl) (by kernel_rfl) (by kernel_rfl) (fun _ _ _ h => h) (Or.inl ⟨by rfl, ?hy44⟩) (by assumption) ?rest44
    case hy44 => (intro w hSw; (try dsimp only at hSw); go_simp <;> with_reducible rfl)
    try simp only [Act.put, List.setIfInBounds_toArray, List.set_cons_zero, List.set_cons_succ, List.getElem_toArray, List.getElem_cons_succ, List.getElem_cons_zero]
    refine' wpAnyH_take (i := 7) (v := _) rfl (by kernel_rfl) (by kernel_rfl) (by kernel_rfl) (fun _ _ _ h => h) (Or.inl ⟨by rfl, ?hy45⟩) (by assumption) ?rest45
    case hy45 => (intro w hSw; (try dsimp only at hSw); go_simp <;> with_reducible rfl)
    try simp only [Act.put, List.setIfInBounds_toArray, List.set_cons_zero, List.set_cons_succ, List.getElem_toArray, List.getElem_cons_succ, List.getElem_cons_zero]
    refine' wpAnyH_take (i := 8) (v := _) rfl (by kernel_rfl) (by kernel_rfl) (by kernel_rfl) (fun _ _ _ h => h) (Or.inl ⟨by rfl, ?hy46⟩) (by assumption) ?rest46
    case hy46 => (intro w hSw; (try dsimp only at hSw); go_simp <;> with_reducible rfl)
    try simp only [Act.put, List.setIfInBounds_toArray, List.set_cons_zero, List.set_cons_succ, List.getElem_toArray, List.getElem_cons_succ, List.getElem_cons_zero]
    refine' wpAnyH_take (i := 9) (v := _) rfl (by kernel_rfl) (by kernel_rfl) (by kernel_rfl) (fun _ _ _ h => h) (Or.inl ⟨by rfl, ?hy47⟩) (by assumption) ?rest47
    case hy47 => (intro w hSw; (try dsimp only at hSw); go_simp <;> with_reducible rfl)
    try simp only [Act.put, List.setIfInBounds_toArray, List.set_cons_zero, List.set_cons_succ, List.getElem_toArray, List.getElem_cons_succ, List.getElem_cons_zero]
    refine' wpAnyH_take (i := 10) (v := _) rfl (by kernel_rfl) (by kernel_rfl) (by kernel_rfl) (fun _ _ _ h => h) (Or.inl ⟨by rfl, ?hy48⟩) (by assumption) ?rest48
    case hy48 => (intro w hSw; (try dsimp only at hSw); go_simp <;> with_reducible rfl)
    try simp only [Act.put, List.setIfInBounds_toArray, List.set_cons_zero, List.set_cons_succ, List.getElem_toArray, List.getElem_cons_succ, List.getElem_cons_zero]
    refine wpAnyH_ready (rs := [11]) (by kernel_rfl) (by simp) (AllReadyH.cons rfl (fun K hK => ?_) AllReadyH.nil)
    simp only [List.getElem_toArray, List.getElem_cons_succ, List.getElem_cons_zero]
    go_simp
    clear hcv; refine (CmdOk.impl_any who seq op a b c k t (by omega) (by omega) _).mono ?_; rw [hok]; rintro e w10 ⟨rfl, g10⟩
    refine hK.out _ _ ?_ (fun hH => ?_)
    · exact SS _ (via0 g10 hH.1)
    clear hK K
    try simp only [Act.put, List.setIfInBounds_toArray, List.set_cons_zero, List.set_cons_succ, List.getElem_toArray, List.getElem_cons_succ, List.getElem_cons_zero]
    refine' wpAnyH_take (i := 12) (v := _) rfl (by kernel_rfl) (by kernel_rfl) (by kernel_rfl) (fun _ _ _ h => h) (Or.inl ⟨by rfl, ?hy49⟩) (by assumption) ?rest49
    case hy49 => (intro w hSw; (try dsimp only at hSw); go_simp <;> with_reducible rfl)
    try simp only [Act.put, List.setIfInBounds_toArray, List.set_cons_zero, List.set_cons_succ, List.getElem_toArray, List.getElem_cons_succ, List.getElem_cons_zero]
    refine' wpAnyH_take (i := 13) (v := _) rfl (by kernel_rfl) (by kernel_rfl) (by kernel_rfl) (fun _ _ _ h => h) (Or.inl ⟨by rfl, ?hy50⟩) (by assumption) ?rest50
    case hy50 => (intro w hSw; (try dsimp only at hSw); go_simp <;> with_reducible rfl)
    try simp only [Act.put, List.setIfInBounds_toArray, List.set_cons_zero, List.set_cons_succ, List.getElem_toArray, List.getElem_cons_succ, List.getElem_cons_zero]
    refine' wpAnyH_take (i := 14) (v := _) rfl (by kernel_rfl) (by kernel_rfl) (by kernel_rfl) (fun _ _ _ h => h) (Or.inl ⟨by rfl, ?hy51⟩) (by assumption) ?rest51
    case hy51 => (intro w hSw; (try dsimp only at hSw); go_simp <;> with_reducible rfl)
    try simp only [Act.put, List.setIfInBounds_toArray, List.set_cons_zero, List.set_cons_succ, List.getElem_toArray, List.getElem_cons_succ, List.getElem_cons_zero]
    refine' wpAnyH_take (i := 15) (v := _) rfl (by kernel_rfl) (by kernel_rfl) (by kernel_rfl) (fun _ _ _ h => h) (Or.inl ⟨by rfl, ?hy52⟩) (by assumption) ?rest52
    case hy52 => (intro w hSw; (try dsimp only at hSw); go_simp <;> with_reducible rfl)
    try simp only [Act.put, List.setIfInBounds_toArray, List.set_cons_zero, List.set_cons_succ, List.getElem_toArray, List.getElem_cons_succ, List.getElem_cons_zero]
    refine' wpAnyH_take (i := 16) (v := _) rfl (by kernel_rfl) (by kernel_rfl) (by kernel_rfl) (fun _ _ _ h => h) (Or.inl ⟨by rfl, ?hy53⟩) (by assumption) ?rest53
    case hy53 => (intro w hSw; (try dsimp only at hSw); go_simp <;> with_reducible rfl)
    try simp only [Act.put, List.setIfInBounds_toArray, List.set_cons_zero, List.set_cons_succ, List.getElem_toArray, List.getElem_cons_succ, List.getElem_cons_zero]
    refine' wpAnyH_take (i := 17) (v := _) rfl (by kernel_rfl) (by kernel_rfl) (by kernel_rfl) (fun _ _ _ h => h) (Or.inl ⟨by rfl, ?hy54⟩) (by assumption) ?rest54
    case hy54 => (intro w hSw; (try dsimp only at hSw); go_simp <;> with_reducible rfl)
    try simp only [Act.put, List.setIfInBounds_toArray, List.set_cons_zero, List.set_cons_succ, List.getElem_toArray, List.getElem_cons_succ, List.getElem_cons_zero]
    refine' wpAnyH_take (i := 18) (v := _) rfl (by kernel_rfl) (by kernel_rfl) (by kernel_rfl) (fun _ _ _ h => h) (Or.inl ⟨by rfl, ?hy55⟩) (by assumption) ?rest55
    case hy55 => (intro w hSw; (try dsimp only at hSw); go_simp <;> with_reducible rfl)
    try simp only [Act.put, List.setIfInBounds_toArray, List.set_cons_zero, List.set_cons_succ, List.getElem_toArray, List.getElem_cons_succ, List.getElem_cons_zero]
    refine' wpAnyH_take (i := 19) (v := _) rfl (by kernel_rfl) (by kernel_rfl) (by kernel_rfl) (fun _ _ _ h => h) (Or.inl ⟨by rfl, ?hy56⟩) (by assumption) ?rest56
    case hy56 => (intro w hSw; (try dsimp only at hSw); go_simp <;> with_reducible rfl)
    try simp only [Act.put, List.setIfInBounds_toArray, List.set_cons_zero, List.set_cons_succ, List.getElem_toArray, List.getElem_cons_succ, List.getElem_cons_zero]
    refine' wpAnyH_take (i := 20) (v := _) rfl (by kernel_rfl) (by kernel_rfl) (by kernel_rfl) (fun _ _ _ h => h) (Or.inl ⟨by rfl, ?hy57⟩) (by assumption) ?rest57
    case hy57 => (intro w hSw; (try dsimp only at hSw); go_simp <;> with_reducible rfl)
    try simp only [Act.put, List.setIfInBounds_toArray, List.set_cons_zero, List.set_cons_succ, List.getElem_toArray, List.getElem_cons_succ, List.getElem_cons_zero]
    refine' wpAnyH_take (i := 21) (v := _) rfl (by kernel_rfl) (by kernel_rfl) (by kernel_rfl) (fun _ _ _ h => h) (Or.inl ⟨by rfl, ?hy58⟩) (by assumption) ?rest58
    case hy58 => (intro w hSw; (try dsimp only at hSw); go_simp <;> with_reducible rfl)
    try simp only [Act.put, List.setIfInBounds_toArray, List.set_cons_zero, List.set_cons_succ, List.getElem_toArray, List.getElem_cons_succ, List.getElem_cons_zero]
    refine' wpAnyH_take (i := 22) (v := _) rfl (by kernel_rfl) (by kernel_rfl) (by kernel_rfl) (fun _ _ _ h => h) (Or.inl ⟨by rfl, ?hy59⟩) (by assumption) ?rest59
    case hy59 => (intro w hSw; (try dsimp only at hSw); go_simp <;> with_reducible rfl)
    try simp only [Act.put, List.setIfInBounds_toArray, List.set_cons_zero, List.set_cons_succ, List.getElem_toArray, List.getElem_cons_succ, List.getElem_cons_zero]
    refine' wpAnyH_take (i := 23) (v := _) rfl (by kernel_rfl) (by kernel_rfl) (by kernel_rfl) (fun _ _ _ h => h) (Or.inl ⟨by rfl, ?hy60⟩) (by assumption) ?rest60
    case hy60 => (intro w hSw; (try dsimp only at hSw); go_simp <;> with_reducible rfl)
    try simp only [Act.put, List.setIfInBounds_toArray, List.set_cons_zero, List.set_cons_succ, List.getElem_toArray, List.getElem_cons_succ, List.getElem_cons_zero]
    refine' wpAnyH_take (i := 24) (v := _) rfl (by kernel_rfl) (by kernel_rfl) (by kernel_rfl) (fun _ _ _ h => h) (Or.inl ⟨by rfl, ?hy61⟩) (by assumption) ?rest61
    case hy61 => (intro w hSw; (try dsimp only at hSw); go_simp <;> with_reducible rfl)
    try simp only [Act.put, List.setIfInBounds_toArray, List.set_cons_zero, List.set_cons_succ, List.getElem_toArray, List.getElem_cons_succ, List.getElem_cons_zero]
    refine' wpAnyH_take (i := 25) (v := _) rfl (by kernel_rfl) (by kernel_rfl) (by kernel_rfl) (fun _ _ _ h => h) (Or.inl ⟨by rfl, ?hy62⟩) (by assumption) ?rest62
    case hy62 => (intro w hSw; (try dsimp only at hSw); go_simp <;> with_reducible rfl)
    try simp only [Act.put, List.setIfInBounds_toArray, List.set_cons_zero, List.set_cons_succ, List.getElem_toArray, List.getElem_cons_succ, List.getElem_cons_zero]
    refine' wpAnyH_take (i := 26) (v := _) rfl (by kernel_rfl) (by kernel_rfl) (by kernel_rfl) (fun _ _ _ h => h) (Or.inl ⟨by rfl, ?hy63⟩) (by assumption) ?rest63
    case hy63 => (intro w hSw; (try dsimp only at hSw); go_simp <;> with_reducible rfl)
    try simp only [Act.put, List.setIfInBounds_toArray, List.set_cons_zero, List.set_cons_succ, List.getElem_toArray, List.getElem_cons_succ, List.getElem_cons_zero]
    refine' wpAnyH_take (i := 27) (v := _) rfl (by kernel_rfl) (by kernel_rfl) (by kernel_rfl) (fun _ _ _ h => h) (Or.inl ⟨by rfl, ?hy64⟩) (by assumption) ?rest64
    case hy64 => (intro w hSw; (try dsimp only at hSw); go_simp <;> with_reducible rfl)
    try simp only [Act.put, List.setIfInBounds_toArray, List.set_cons_zero, List.set_cons_succ, List.getElem_toArray, List.getElem_cons_succ, List.getElem_cons_zero]
    refine' wpAnyH_take (i := 28) (v := _) rfl (by kernel_rfl) (by kernel_rfl) (by kernel_rfl) (fun _ _ _ h => h) (Or.inl ⟨by rfl, ?hy65⟩) (by assumption) ?rest65
    case hy65 => (intro w hSw; (try dsimp only at hSw); go_simp <;> with_reducible rfl)
    try simp only [Act.put, List.setIfInBounds_toArray, List.set_cons_zero, List.set_cons_succ, List.getElem_toArray, List.getElem_cons_succ, List.getElem_cons_zero]
    refine wpAnyH_done (by kernel_rfl) ?_ _
    refine NoPanic.normal ?_
    have hB10 := hH.1
    have HAz := hidP (HA.out.below hB10)
    have HBs10 := hidP (HBs.out.below hB10)
    have HR10 := hidP (HR.out.below hB10)
    have HB10 := hidP (via0 hB10 HB.out)
    have bX10 := bX.below hB10 bX.lt
    have bD10 := bD.below hB10 bD.lt
    clear hH hB10 HcB SS HS HA HBs HR HB bX bD bE g9 o9 g10
    go_wp2_with fail
    cases O with
    | false =>
      refine wp_region_noPanic ?_
      refine wp_region_held_drew (S := (fun W => Below w10.heap.size w10 W)) (by kernel_rfl) ?_ (fun hH => ?_)
      · exact below_drew (Below.refl _ _)
      refine' wpAnyH_take (i := 0) (v := _) rfl (by kernel_rfl) (by kernel_rfl) (by kernel_rfl) (fun _ _ _ h => h) (Or.inl ⟨by rfl, ?hy66⟩) (by assumption) ?rest66
      case hy66 => (intro w hSw; (try dsimp only at hSw); go_simp <;> with_reducible rfl)
      try simp only [Act.put, List.setIfInBounds_toArray, List.set_cons_zero, List.set_cons_succ, List.getElem_toArray, List.getElem_cons_succ, List.getElem_cons_zero]
      refine' wpAnyH_take (i := 1) (v := _) rfl (by kernel_rfl) (by kernel_rfl) (by kernel_rfl) (fun _ _ _ h => h) (Or.inl ⟨by rfl, ?hy67⟩) (by assumption) ?rest67
      case hy67 => (intro w hSw; (try dsimp only at hSw); go_simp <;> with_reducible rfl)
      try simp only [Act.put, List.setIfInBounds_toArray, List.set_cons_zero, List.set_cons_succ, List.getElem_toArray, List.getElem_cons_succ, List.getElem_cons_zero]
      refine wpAnyH_take (i := 2) (v := undef) rfl (by kernel_rfl) (by kernel_rfl) (by kernel_rfl) (fun _ _ _ h => h) (Or.inr ⟨by rfl, rfl⟩) (by assumption) ?_
      try simp only [Act.put, List.setIfInBounds_toArray, List.set_cons_zero, List.set_cons_succ, List.getElem_toArray, List.getElem_cons_succ, List.getElem_cons_zero]
      refine wpAnyH_take (i := 3) (v := undef) rfl (by kernel_rfl) (by kernel_rfl) (by kernel_rfl) (fun _ _ _ h => h) (Or.inr ⟨by rfl, rfl⟩) (by assumption) ?_
      try simp only [Act.put, List.setIfInBounds_toArray, List.set_cons_zero, List.set_cons_succ, List.getElem_toArray, List.getElem_cons_succ, List.getElem_cons_zero]
      refine wpAnyH_take (i := 4) (v := undef) rfl (by kernel_rfl) (by kernel_rfl) (by kernel_rfl) (fun _ _ _ h => h) (Or.inr ⟨by rfl, rfl⟩) (by assumption) ?_
      try simp only [Act.put, List.setIfInBounds_toArray, List.set_cons_zero, List.set_cons_succ, List.getElem_toArray, List.getElem_cons_succ, List.getElem_cons_zero]
      refine wpAnyH_take (i := 5) (v := undef) rfl (by kernel_rfl) (by kernel_rfl) (by kernel_rfl) (fun _ _ _ h => h) (Or.inr ⟨by rfl, rfl⟩) (by assumption) ?_
      try simp only [Act.put, List.setIfInBounds_toArray, List.set_cons_zero, List.set_cons_succ, List.getElem_toArray, List.getElem_cons_succ, List.getElem_cons_zero]
      refine wpAnyH_take (i := 6) (v := undef) rfl (by kernel_rfl) (by kernel_rfl) (by kernel_rfl) (fun _ _ _ h => h) (Or.inr ⟨by rfl, rfl⟩) (by assumption) ?_
      try simp only [Act.put, List.setIfInBounds_toArray, List.set_cons_zero, List.set_cons_succ, List.getElem_toArray, List.getElem_cons_succ, List.getElem_cons_zero]
      refine wpAnyH_take (i := 7) (v := undef) rfl (by kernel_rfl) (by kernel_rfl) (by kernel_rfl) (fun _ _ _ h => h) (Or.inr ⟨by rfl, rfl⟩) (by assumption) ?_
      try simp only [Act.put, List.setIfInBounds_toArray, List.set_cons_zero, List.set_cons_succ, List.getElem_toArray, List.getElem_cons_succ, List.getElem_cons_zero]
      refine wpAnyH_take (i := 8) (v := undef) rfl (by kernel_rfl) (by kernel_rfl) (by kernel_rfl) (fun _ _ _ h => h) (Or.inr ⟨by rfl, rfl⟩) (by assumption) ?_
      try simp only [Act.put, List.setIfInBounds_toArray, List.set_cons_zero, List.set_cons_succ, List.getElem_toArray, List.getElem_cons_succ, List.getElem_cons_zero]
      refine wpAnyH_take (i := 9) (v := undef) rfl (by kernel_rfl) (by kernel_rfl) (by kernel_rfl) (fun _ _ _ h => h) (Or.inr ⟨by rfl, rfl⟩) (by assumption) ?_
      try simp only [Act.put, List.setIfInBounds_toArray, List.set_cons_zero, List.set_cons_succ, List.getElem_toArray, List.getElem_cons_succ, List.getElem_cons_zero]
      refine wpAnyH_take (i := 10) (v := undef) rfl (by kernel_rfl) (by kernel_rfl) (by kernel_rfl) (fun _ _ _ h => h) (Or.inr ⟨by rfl, rfl⟩) (by assumption) ?_
      try simp only [Act.put, List.setIfInBounds_toArray, List.set_cons_zero, List.set_cons_succ, List.getElem_toArray, List.getElem_cons_succ, List.getElem_cons_zero]
      refine' wpAnyH_take (i := 11) (v := _) rfl (by kernel_rfl) (by kernel_rfl) (by kernel_rfl) (fun _ _ _ h => h) (Or.inl ⟨by rfl, ?hy68⟩) (by assumption) ?rest68
      case hy68 => (intro w hSw; (try dsimp only at hSw); go_simp <;> with_reducible rfl)
      try simp only [Act.put, List.setIfInBounds_toArray, List.set_cons_zero, List.set_cons_succ, List.getElem_toArray, List.getElem_cons_succ, List.getElem_cons_zero]
      refine wpAnyH_done (by kernel_rfl) ?_ _
      refine NoPanic.normal ?_
      have hz := hH
      have HBz := hidP (via0 hz HB10.out)
      have HBs := hidP (HBs10.out.below hz)
      have HCo := hidP (HAz.out.below hz)
      have bXz := bX10.below hz bX10.lt
      clear hH hz HB10 HBs10 HAz HR10 bX10 bD10
      generalize w10.drew = Wz at *
      have cx0 := bXz.cell (i := 0) rfl
      have cx1 := bXz.cell (i := 1) rfl
      have cx2 := bXz.cell (i := 2) rfl
      have cx3 := bXz.cell (i := 3) rfl
      have cx4 := bXz.cell (i := 4) rfl
      have cx5 := bXz.cell (i := 5) rfl
      have cx6 := bXz.cell (i := 6) rfl
      have cx7 := bXz.cell (i := 7) rfl
      have hXz := hidP bXz.lt
      have hwz := hidP HBz.out.size
      have own0 := own_empty (g := Wz.heap.size) (B := Wz.heap.size) (W := Wz) (Nat.le_refl _) rfl
      have al := alloc0 (Below.refl _ Wz) (.cells #[] 5)
      obtain ⟨x4, c4, W4, hr4, own4, g4⟩ := append_l (xs := []) (c' := cB) (show Wz.heap.size ≤ (Wz.alloc (.cells #[] 5)).heap.size by simp) own0 (HBs.out.below al) (by simp; omega)
      rw [List.nil_append] at hr4 own4
      have u4 := grown_at own0 (show Wz.heap.size ≤ (Wz.alloc (.cells #[] 5)).heap.size by simp) g4
      have al4 := al.trans u4
      replace HBz := hidP (via0 al4 HBz.out)
      replace HCo := hidP (HCo.out.below al4)
      replace bXz := bXz.below al4 bXz.lt
      have O4 := hidP own4
      have s4 := al4.size
      clear own0 al u4 g4 al4 own4 HBs cx0 cx1 cx2 cx3 cx4 cx5 cx6 cx7
      go_wp2_with (at_builtin; refine wpList_append_is rfl _ _ _ rfl _ _ _ rfl rfl hr4 ?_)
      refine (at_any A cap l hl1 Hby.out _ HCo.out).mono ?_
      rintro e W5 ⟨y, rfl, hy0, hy1, rfl⟩
      have hat : At (W5.alloc (.cells #[.int .u8 y] 5)) (some ⟨W5.heap.size, 0, none⟩) [u8 y] := .inr ⟨_, _, rfl, by simp, newIn W5 [u8 y] #[.int .u8 y] 5 (by
        show [Value.int .u8 y] = [Value.int .u8 ((u8 y).toNat : Int)]
        rw [u8_small hy0 hy1])⟩
      have al := alloc0 (Below.refl _ W5) (.cells #[.int .u8 y] 5)
      obtain ⟨x6, c6, W6, hr6, own6, g6⟩ := append_l (c' := 1) (show Wz.heap.size ≤ (W5.alloc (.cells #[.int .u8 y] 5)).heap.size by simp; omega) (owns_alloc O4.out (.cells #[.int .u8 y] 5)) hat (by simp; omega)
      have u6 := grown_at (owns_alloc O4.out (.cells #[.int .u8 y] 5)) (show Wz.heap.size ≤ (W5.alloc (.cells #[.int .u8 y] 5)).heap.size by simp; omega) g6
      obtain ⟨hpos, hof⟩ := hB1.out hok
      have hof' := hof [u8 y]
      obtain ⟨hc61, hc62⟩ := owns_cap own6
      have hl6 : (Bs ++ [u8 y]).length ≤ 101 := by simp; omega
      generalize Bs ++ [u8 y] = B6 at *
      have HI := hidP (implCmdOf_any x6 c6 B6 (by omega) hc61 hc62 0 ⟨by omega, by omega⟩ W6 (fresh_owns own6).at)
      rw [hof'] at HI
      simp only [ofT, Cm.v] at HI
      replace bXz := blk_under (bXz.alloc (.cells #[.int .u8 y] 5)) u6 hXz.out
      replace HBz := hidP ((via0 al HBz.out).trans (u6.mono hwz.out))
      clear own6 g6 u6 al hat hof hof' O4 HCo
      go_wp2_with (at_builtin; refine wpList_append_is rfl _ _ _ rfl _ _ _ rfl rfl hr6 ?_)
      refine HI.out.mono ?_
      rintro e W7 ⟨rfl, g7⟩
      replace bXz := bXz.below g7 bXz.lt
      replace HBz := hidP (via0 g7 HBz.out)
      have heq2 := eq_same ⟨who, seq, op, a, b, c, k, t⟩
      simp only at heq2
      clear g7 HI hr4 hr6
      have cx0 := bXz.cell (i := 0) rfl
      have cx1 := bXz.cell (i := 1) rfl
      have cx2 := bXz.cell (i := 2) rfl
      have cx3 := bXz.cell (i := 3) rfl
      have cx4 := bXz.cell (i := 4) rfl
      have cx5 := bXz.cell (i := 5) rfl
      have cx6 := bXz.cell (i := 6) rfl
      have cx7 := bXz.cell (i := 7) rfl
      have qX := bXz.lt
      go_wp2
      go_ret
      exact ⟨rfl, alloc0 HBz.out _⟩
    | true =>
      obtain ⟨j, m, rfl, rfl, hjm, hxok, hcut1⟩ := HF.out rfl
      obtain ⟨v1, hs1, hv1⟩ := cut_at aR cR R j m hjm hR2 hR3 _ HR10.out
      rw [hcut1] at hv1
      have Hv1 : Hid (∀ W, Below w10.heap.size w10 W → (convert 22 9 v1).run Try.prog W = .ok (.string ⟨x.bytes.toArray⟩) W) := hidP (fun W h => hv1 W (HR10.out.below h))
      have hxo : cmO x.who x.seq x.op x.a x.b x.c x.k x.t = x.bytes := by unfold cmO; exact if_pos hxok
      have SS2 : ∀ W, Below w10.heap.size w10 W → (fun W => Below w10.heap.size w10 W ∧ W.cell? ⟨D, 0, none⟩ = some (.int .i64 x.who) ∧ W.cell? ⟨D, 1, none⟩ = some (.int .i64 x.seq) ∧ W.cell? ⟨D, 2, none⟩ = some (.int .i64 x.op) ∧ W.cell? ⟨D, 3, none⟩ = some (.int .i64 x.a) ∧ W.cell? ⟨D, 4, none⟩ = some (.int .i64 x.b) ∧ W.cell? ⟨D, 5, none⟩ = some (.int .i64 x.c) ∧ W.cell? ⟨D, 6, none⟩ = some (.string x.k) ∧ W.cell? ⟨D, 7, none⟩ = some (.string x.t)) W := fun W h => ⟨h, (bD10.below h bD10.lt).cell (i := 0) rfl, (bD10.below h bD10.lt).cell (i := 1) rfl, (bD10.below h bD10.lt).cell (i := 2) rfl, (bD10.below h bD10.lt).cell (i := 3) rfl, (bD10.below h bD10.lt).cell (i := 4) rfl, (bD10.below h bD10.lt).cell (i := 5) rfl, (bD10.below h bD10.lt).cell (i := 6) rfl, (bD10.below h bD10.lt).cell (i := 7) rfl⟩
      clear hv1 hcut1 HF
      refine wp_region_noPanic ?_
      refine wp_region_held_drew (S := (fun W => Below w10.heap.size w10 W ∧ W.cell? ⟨D, 0, none⟩ = some (.int .i64 x.who) ∧ W.cell? ⟨D, 1, none⟩ = some (.int .i64 x.seq) ∧ W.cell? ⟨D, 2, none⟩ = some (.int .i64 x.op) ∧ W.cell? ⟨D, 3, none⟩ = some (.int .i64 x.a) ∧ W.cell? ⟨D, 4, none⟩ = some (.int .i64 x.b) ∧ W.cell? ⟨D, 5, none⟩ = some (.int .i64 x.c) ∧ W.cell? ⟨D, 6, none⟩ = some (.string x.k) ∧ W.cell? ⟨D, 7, none⟩ = some (.string x.t))) (by kernel_rfl) ?_ (fun hH => ?_)
      · exact SS2 _ (below_drew (Below.refl _ _))
      refine' wpAnyH_take (i := 0) (v := _) rfl (by kernel_rfl) (by kernel_rfl) (by kernel_rfl) (fun _ _ _ h => h) (Or.inl ⟨by rfl, ?hy69⟩) (by assumption) ?rest69
      case hy69 => (intro w hSw; (try dsimp only at hSw); go_simp <;> with_reducible rfl)
      try simp only [Act.put, List.setIfInBounds_toArray, List.set_cons_zero, List.set_cons_succ, List.getElem_toArray, List.getElem_cons_succ, List.getElem_cons_zero]
      refine' wpAnyH_take (i := 1) (v := _) rfl (by kernel_rfl) (by kernel_rfl) (by kernel_rfl) (fun _ _ _ h => h) (Or.inl ⟨by rfl, ?hy70⟩) (by assumption) ?rest70
      case hy70 => (intro w hSw; (try dsimp only at hSw); go_simp <;> with_reducible rfl)
      try simp only [Act.put, List.setIfInBounds_toArray, List.set_cons_zero, List.set_cons_succ, List.getElem_toArray, List.getElem_cons_succ, List.getElem_cons_zero]
      refine' wpAnyH_take (i := 2) (v := _) rfl (by kernel_rfl) (by kernel_rfl) (by kernel_rfl) (fun _ _ _ h => h) (Or.inl ⟨by rfl, ?hy71⟩) (by assumption) ?rest71
      case hy71 => (intro w hSw; (try dsimp only at hSw); go_simp <;> with_reducible rfl)
      try simp only [Act.put, List.setIfInBounds_toArray, List.set_cons_zero, List.set_cons_succ, List.getElem_toArray, List.getElem_cons_succ, List.getElem_cons_zero]
      refine' wpAnyH_take (i := 5) (v := _) rfl (by kernel_rfl) (by kernel_rfl) (by kernel_rfl) (fun _ _ _ h => h) (Or.inl ⟨by rfl, ?hy72⟩) (by assumption) ?rest72
      case hy72 => (intro w hSw; (try dsimp only at hSw); go_simp <;> with_reducible rfl)
      try simp only [Act.put, List.setIfInBounds_toArray, List.set_cons_zero, List.set_cons_succ, List.getElem_toArray, List.getElem_cons_succ, List.getElem_cons_zero]
      refine' wpAnyH_take (i := 6) (v := _) rfl (by kernel_rfl) (by kernel_rfl) (by kernel_rfl) (fun _ _ _ h => h) (Or.inl ⟨by rfl, ?hy73⟩) (by assumption) ?rest73
      case hy73 => (intro w hSw; (try dsimp only at hSw); go_simp <;> with_reducible rfl)
      try simp only [Act.put, List.setIfInBounds_toArray, List.set_cons_zero, List.set_cons_succ, List.getElem_toArray, List.getElem_cons_succ, List.getElem_cons_zero]
      refine' wpAnyH_take (i := 7) (v := _) rfl (by kernel_rfl) (by kernel_rfl) (by kernel_rfl) (fun _ _ _ h => h) (Or.inl ⟨by rfl, ?hy74⟩) (by assumption) ?rest74
      case hy74 => (intro w hSw; (try dsimp only at hSw); go_simp <;> with_reducible rfl)
      try simp only [Act.put, List.setIfInBounds_toArray, List.set_cons_zero, List.set_cons_succ, List.getElem_toArray, List.getElem_cons_succ, List.getElem_cons_zero]
      refine' wpAnyH_take (i := 8) (v := _) rfl (by kernel_rfl) (by kernel_rfl) (by kernel_rfl) (fun _ _ _ h => h) (Or.inl ⟨by rfl, ?hy75⟩) (by assumption) ?rest75
      case hy75 => (intro w hSw; (try dsimp only at hSw); go_simp <;> with_reducible rfl)
      try simp only [Act.put, List.setIfInBounds_toArray, List.set_cons_zero, List.set_cons_succ, List.getElem_toArray, List.getElem_cons_succ, List.getElem_cons_zero]
      refine' wpAnyH_take (i := 9) (v := _) rfl (by kernel_rfl) (by kernel_rfl) (by kernel_rfl) (fun _ _ _ h => h) (Or.inl ⟨by rfl, ?hy76⟩) (by assumption) ?rest76
      case hy76 => (intro w hSw; (try dsimp only at hSw); go_simp <;> (rw [Hv1.out _ hSw.1, Result.andThen_ok] <;> with_reducible rfl))
      try simp only [Act.put, List.setIfInBounds_toArray, List.set_cons_zero, List.set_cons_succ, List.getElem_toArray, List.getElem_cons_succ, List.getElem_cons_zero]
      refine wpAnyH_ready (rs := [3]) (by kernel_rfl) (by simp) (AllReadyH.cons rfl (fun K hK => ?_) AllReadyH.nil)
      simp only [List.getElem_toArray, List.getElem_cons_succ, List.getElem_cons_zero]
      go_simp
      refine (implCmdBytes_any x.who x.seq x.op x.a x.b x.c x.k x.t (by omega) (by omega) _).mono ?_; rw [hxo]; rintro e w11 ⟨aQ, cQ, rfl, g11, o11⟩; have hcv := conv_any aQ cQ x.bytes w11 (fresh_owns o11).at
      refine hK.out _ _ ?_ (fun hH => ?_)
      · exact SS2 _ (via0 g11 hH.1)
      clear hK K
      try simp only [Act.put, List.setIfInBounds_toArray, List.set_cons_zero, List.set_cons_succ, List.getElem_toArray, List.getElem_cons_succ, List.getElem_cons_zero]
      refine wpAnyH_ready (rs := [4]) (by kernel_rfl) (by simp) (AllReadyH.cons rfl (fun K hK => ?_) AllReadyH.nil)
      simp only [List.getElem_toArray, List.getElem_cons_succ, List.getElem_cons_zero]
      go_simp
      
      refine hK.out _ _ ?_ (fun hH => ?_)
      · exact hH
      clear hK K
      try simp only [Act.put, List.setIfInBounds_toArray, List.set_cons_zero, List.set_cons_succ, List.getElem_toArray, List.getElem_cons_succ, List.getElem_cons_zero]
      refine' wpAnyH_take (i := 10) (v := _) rfl (by kernel_rfl) (by kernel_rfl) (by kernel_rfl) (fun _ _ _ h => h) (Or.inl ⟨by rfl, ?hy77⟩) (by assumption) ?rest77
      case hy77 => (intro w hSw; (try dsimp only at hSw); go_simp <;> with_reducible rfl)
      try simp only [Act.put, List.setIfInBounds_toArray, List.set_cons_zero, List.set_cons_succ, List.getElem_toArray, List.getElem_cons_succ, List.getElem_cons_zero]
      refine' wpAnyH_take (i := 11) (v := _) rfl (by kernel_rfl) (by kernel_rfl) (by kernel_rfl) (fun _ _ _ h => h) (Or.inl ⟨by rfl, ?hy78⟩) (by assumption) ?rest78
      case hy78 => (intro w hSw; (try dsimp only at hSw); go_simp <;> with_reducible rfl)
      try simp only [Act.put, List.setIfInBounds_toArray, List.set_cons_zero, List.set_cons_succ, List.getElem_toArray, List.getElem_cons_succ, List.getElem_cons_zero]
      refine wpAnyH_done (by kernel_rfl) ?_ _
      refine NoPanic.normal ?_
      have hz := hH.1
      clear hcv
      have HBz := hidP (via0 hz HB10.out)
      have HBs := hidP (HBs10.out.below hz)
      have HCo := hidP (HAz.out.below hz)
      have bXz := bX10.below hz bX10.lt
      clear hH hz HB10 HBs10 HAz HR10 bX10 bD10 g11 o11 SS2 Hv1 hs1
      generalize w11 = Wz at *
      have cx0 := bXz.cell (i := 0) rfl
      have cx1 := bXz.cell (i := 1) rfl
      have cx2 := bXz.cell (i := 2) rfl
      have cx3 := bXz.cell (i := 3) rfl
      have cx4 := bXz.cell (i := 4) rfl
      have cx5 := bXz.cell (i := 5) rfl
      have cx6 := bXz.cell (i := 6) rfl
      have cx7 := bXz.cell (i := 7) rfl
      have hXz := hidP bXz.lt
      have hwz := hidP HBz.out.size
      have own0 := own_empty (g := Wz.heap.size) (B := Wz.heap.size) (W := Wz) (Nat.le_refl _) rfl
      have al := alloc0 (Below.refl _ Wz) (.cells #[] 5)
      obtain ⟨x4, c4, W4, hr4, own4, g4⟩ := append_l (xs := []) (c' := cB) (show Wz.heap.size ≤ (Wz.alloc (.cells #[] 5)).heap.size by simp) own0 (HBs.out.below al) (by simp; omega)
      rw [List.nil_append] at hr4 own4
      have u4 := grown_at own0 (show Wz.heap.size ≤ (Wz.alloc (.cells #[] 5)).heap.size by simp) g4
      have al4 := al.trans u4
      replace HBz := hidP (via0 al4 HBz.out)
      replace HCo := hidP (HCo.out.below al4)
      replace bXz := bXz.below al4 bXz.lt
      have O4 := hidP own4
      have s4 := al4.size
      clear own0 al u4 g4 al4 own4 HBs cx0 cx1 cx2 cx3 cx4 cx5 cx6 cx7
      go_wp2_with (at_builtin; refine wpList_append_is rfl _ _ _ rfl _ _ _ rfl rfl hr4 ?_)
      refine (at_any A cap l hl1 Hby.out _ HCo.out).mono ?_
      rintro e W5 ⟨y, rfl, hy0, hy1, rfl⟩
      have hat : At (W5.alloc (.cells #[.int .u8 y] 5)) (some ⟨W5.heap.size, 0, none⟩) [u8 y] := .inr ⟨_, _, rfl, by simp, newIn W5 [u8 y] #[.int .u8 y] 5 (by
        show [Value.int .u8 y] = [Value.int .u8 ((u8 y).toNat : Int)]
        rw [u8_small hy0 hy1])⟩
      have al := alloc0 (Below.refl _ W5) (.cells #[.int .u8 y] 5)
      obtain ⟨x6, c6, W6, hr6, own6, g6⟩ := append_l (c' := 1) (show Wz.heap.size ≤ (W5.alloc (.cells #[.int .u8 y] 5)).heap.size by simp; omega) (owns_alloc O4.out (.cells #[.int .u8 y] 5)) hat (by simp; omega)
      have u6 := grown_at (owns_alloc O4.out (.cells #[.int .u8 y] 5)) (show Wz.heap.size ≤ (W5.alloc (.cells #[.int .u8 y] 5)).heap.size by simp; omega) g6
      obtain ⟨hpos, hof⟩ := hB1.out hok
      have hof' := hof [u8 y]
      obtain ⟨hc61, hc62⟩ := owns_cap own6
      have hl6 : (Bs ++ [u8 y]).length ≤ 101 := by simp; omega
      generalize Bs ++ [u8 y] = B6 at *
      have HI := hidP (implCmdOf_any x6 c6 B6 (by omega) hc61 hc62 0 ⟨by omega, by omega⟩ W6 (fresh_owns own6).at)
      rw [hof'] at HI
      simp only [ofT, Cm.v] at HI
      replace bXz := blk_under (bXz.alloc (.cells #[.int .u8 y] 5)) u6 hXz.out
      replace HBz := hidP ((via0 al HBz.out).trans (u6.mono hwz.out))
      clear own6 g6 u6 al hat hof hof' O4 HCo
      go_wp2_with (at_builtin; refine wpList_append_is rfl _ _ _ rfl _ _ _ rfl rfl hr6 ?_)
      refine HI.out.mono ?_
      rintro e W7 ⟨rfl, g7⟩
      replace bXz := bXz.below g7 bXz.lt
      replace HBz := hidP (via0 g7 HBz.out)
      have heq2 := eq_same ⟨who, seq, op, a, b, c, k, t⟩
      simp only at heq2
      clear g7 HI hr4 hr6
      have cx0 := bXz.cell (i := 0) rfl
      have cx1 := bXz.cell (i := 1) rfl
      have cx2 := bXz.cell (i := 2) rfl
      have cx3 := bXz.cell (i := 3) rfl
      have cx4 := bXz.cell (i := 4) rfl
      have cx5 := bXz.cell (i := 5) rfl
      have cx6 := bXz.cell (i := 6) rfl
      have cx7 := bXz.cell (i := 7) rfl
      have qX := bXz.lt
      go_wp2
      go_ret
      exact ⟨rfl, alloc0 HBz.out _⟩
theorem cellsU8 : Try.prog.cellsOf 5 = 1 := by kernel_rfl
set_option maxRecDepth 100000 in
theorem openBy {H : Type} {enc : TypeId × Value → H} {w : World} {base n : Nat} {spare : Nat → Bool} {held : Bool} {a : Addr} {cs : List Value} {y : DataW H × List MemPlace}
    (h1 : w.cells? base a 1 = some cs) (h2 : DataW.trod enc Try.prog w base spare held n 5 cs = some y) :
    ∃ x : By, x.right ∧ a.spot = none ∧ a.block < w.heap.size ∧ ∀ j v, (Cel.cs x)[j]? = some v → w.cell? ⟨a.block, a.off + j, none⟩ = some v := by
  obtain ⟨_, hlen, hc⟩ := World.cells?_some h1
  match cs, hlen with
  | [c0], _ =>
    obtain ⟨x, e0, _, w0⟩ := DataW.trod_int Try.underlying5 h2
    simp at e0
    subst e0
    have q0 := hc 0 (by omega)
    have hsp : a.spot = none := by
      cases hs : a.spot with
      | none => rfl
      | some s => exfalso; simp [Addr.add, World.cell?, hs] at q0; split at q0 <;> simp at q0
    have hlt : a.block < w.heap.size := by
      rw [show a.add 0 = a from rfl] at q0
      unfold World.cell? at q0
      cases hh : w.heap[a.block]? with
      | none => simp [hh] at q0
      | some ob => exact (Array.getElem?_eq_some_iff.1 hh).1
    refine ⟨⟨x⟩, by simpa [By.right, Lit.wf, IntKind.min, IntKind.max, IntKind.signed, IntKind.bits] using w0, hsp, hlt, ?_⟩
    intro j v hv
    have hj : j < 1 := (List.getElem?_eq_some_iff.1 hv).1
    have q := hc j hj
    have e : a.add j = ⟨a.block, a.off + j, none⟩ := by
      obtain ⟨b, o, s⟩ := a
      simp only at hsp
      subst hsp
      exact Addr.add_mid b o j
    rw [e] at q
    rw [q]
    exact hv
set_option maxRecDepth 100000 in
theorem openBytes {H : Type} {enc : TypeId × Value → H} {W : World} {base b0 : Nat} {r : Reach} {spare : Nat → Bool} {held : Bool} {v : Value} {d : DataW H} {p : List MemPlace}
    (hv : Value.okWide Try.prog W r b0 22 v) (h : DataW.Trod enc Try.prog W base spare held 22 v d p) :
    ∃ (A : Option Addr) (cap : Nat) (l : List By), v = .slice A l.length cap ∧ l.length ≤ 9223372036854775807 ∧ (∀ x ∈ l, x.right) ∧ At W A l := by
  obtain ⟨a0, len0, cap0, rfl⟩ := okWide_slice Try.underlying22 hv
  obtain ⟨n, g⟩ := h
  rcases open_slice Try.underlying22 g with ⟨e2, _⟩ | ⟨a, len, cap, m, n', D, Pl, e2, _, hl, hm, hmm, _, hx⟩
  · simp [Value.cells] at e2
    obtain ⟨rfl, rfl, rfl⟩ := e2
    exact ⟨none, 0, [], rfl, by simp, by simp, .inl rfl⟩
  · simp [Value.cells] at e2
    obtain ⟨rfl, rfl, rfl⟩ := e2
    have hle : len0 ≤ m := by rw [hmm]; split <;> omega
    rw [cellsU8] at hx
    obtain ⟨X, hX⟩ := choose_lt (α := By) (p := fun i x => x.right ∧ (a.add (i * 1)).spot = none ∧ (a.add (i * 1)).block < W.heap.size ∧ ∀ j v, (Cel.cs x)[j]? = some v → W.cell? ⟨(a.add (i * 1)).block, (a.add (i * 1)).off + j, none⟩ = some v)
      (n := len0) (fun i hi => by obtain ⟨cs', h1, h2⟩ := hx i (by omega); exact openBy h1 h2)
    obtain ⟨l, rfl, hR, hat⟩ := at_of (α := By) (by decide) (R := By.right) hX
    exact ⟨some a, cap0, l, rfl, by simp [maxLen] at hm ⊢; omega, hR, hat⟩

set_option maxRecDepth 100000 in
theorem contract (H : Type) (enc : TypeId × Value → H) (W : World) (base : Nat) (args : Array Value) (ds gs : List (DataW H)) (before : List MemPlace)
    (hval : ∀ (j : Nat) t v, Try.f4.params[j]? = some t → args[j]? = some v → Value.okWide Try.prog W .any base t v)
    (hW : DataW.Whole enc Try.prog Try.f4.params.toList Rows.fnCmdBytesSpec.vars false W args.toList ds gs before) :
    Calls Try.prog 4 args W fun e W' => ∃ v, e = .returned v ∧ Rows.fnCmdBytesSpec.post enc Try.prog Try.f4 false true false false W args v W' := by
  have hW' := hW
  obtain ⟨p, q, hA0, hV, rfl, hfz, hnd⟩ := hW
  have hA : DataW.TrodAll enc Try.prog W 0 (fun _ => true) true Try.f4.params.toList args.toList ds p := hA0
  rw [Try.params4] at hA hval
  obtain ⟨v0, vs0, d0, ds0, p0, q0, e0, rfl, rfl, h0, r0⟩ := trodAll_cons hA
  obtain ⟨rfl, rfl, rfl⟩ := trodAll_nil r0
  have e0' : args = #[v0] := by cases args; simp_all
  subst e0'
  obtain ⟨rfl, rfl⟩ := trodVars_none hV
  obtain ⟨A, cap, l, rfl, hl, hby, hat⟩ := openBytes (hval 0 22 v0 rfl rfl) h0
  refine (law_any A cap l hl hby W hat).mono fun e W' ⟨he, hb⟩ => ?_
  subst he
  exact ⟨_, rfl, post_true laidOut (by kernel_rfl) (by kernel_rfl) Try.underlying4 rfl rfl hW' hb⟩

set_option maxRecDepth 100000 in
theorem lifted (os : Os) (started : os.Started) (H : Type) (enc : TypeId × Value → H) :
    ReturnsInHanded {} Try.checked os 4 .any (Rows.fnCmdBytesSpec.pre6 enc Try.prog Try.f4 Rows.fnCmdBytesRow.domain false) (Rows.fnCmdBytesSpec.post enc Try.prog Try.f4 false true false false) := by
  refine returnsInHanded_of_change (C := Try.checked) own started (by kernel_rfl) Try.func4
    (ChangeSpec.witness6 (enc := enc) (C := Try.checked) false ⟨#[], #[.slice none 0 0], []⟩ 8 (by kernel_rfl) (by kernel_rfl) (by kernel_rfl) (by kernel_rfl)) ?_
  intro W base args ds gs before hval0 hW _ _
  exact contract H enc W base args ds gs before hval0 hW

theorem proved : Rows.FnCmdBytesSaid :=
  OpenClaim.holds_of_wide 4 Try.f4 rfl rfl rfl rfl rfl rfl rfl ⟨rfl, rfl, rfl, rfl, rfl⟩ rfl rfl rfl rfl rfl (by kernel_rfl) Try.func4 (by kernel_rfl)
    (of_decide_eq_true (by kernel_rfl)) (by unfold Func.isWrapper; first | (rw [if_pos (by decide +kernel)]; kernel_rfl) | (rw [if_neg (by decide +kernel)]; exact ⟨rfl, rfl⟩))
    (fun os started H enc _ => lifted os started H enc)
end Go.Proofs.Ytjmaifmcoepfdaa.CmdLaw
namespace Go.Proofs.Ytjmaifmcoepfdaa
theorem cmdBytes2_holds : Rows.FnCmdBytesSaid := CmdLaw.proved
end Go.Proofs.Ytjmaifmcoepfdaa
