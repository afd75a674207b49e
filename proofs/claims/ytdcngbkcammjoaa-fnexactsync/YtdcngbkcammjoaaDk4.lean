/-
  spec.Fall: what it answers. No condition but that there are at most 1048576 bytes.
-/
import Derived.Test.YtdcngbkcammjoaaDk3
namespace Go.Proofs.Ytdcngbkcammjoaa.Gen
open Go.ChangeShapes Go.WideShapes Go.ChangeAt Go.RowKit Go.Joins Go.Deep Base
set_option linter.unusedVariables false
set_option linter.unusedSimpArgs false

theorem cut_size8 (w : World) : (sizeOf 5).run Try.prog w = .ok 1 w := Try.sizeOf5 w
theorem cut_to8 (A : Option Addr) (n c j : Nat) (h2 : j ≤ c) (hc : c ≤ maxLen) (w : World) :
    (Instr.slice 22 (.slice A n c) none (some (.int .i64 (j : Int))) none).run Try.prog w = .ok (.slice A j c) w := by
  have hc' : c ≤ 9223372036854775807 := hc
  have e : A.map (fun x => x.add 0) = A := by cases A <;> rfl
  simp [Instr.slice, run_underlying Try.underlying22, Instr.sliceBounds, Instr.sliceBound, asIntOf, cut_size8, h2, e]
theorem cut_end8 (A : Option Addr) (n c j : Nat) (h2 : j ≤ c) (hc : c ≤ maxLen) (w : World) :
    (Instr.slice 22 (.slice A n c) none (some (.int .i64 (j : Int))) (some (.int .i64 (j : Int)))).run Try.prog w = .ok (.slice A j j) w := by
  have hc' : c ≤ 9223372036854775807 := hc
  have e : A.map (fun x => x.add 0) = A := by cases A <;> rfl
  simp [Instr.slice, run_underlying Try.underlying22, Instr.sliceBounds, Instr.sliceBound, asIntOf, cut_size8, h2, e]
theorem In.take8 {w : World} {b o : Nat} {l : List UInt8} (h : In w b o l) (n : Nat) : In w b o (l.take n) := fun j v hv => h j v (by
  have e : flat l = flat (l.take n) ++ flat (l.drop n) := by rw [← flat_append, List.take_append_drop]
  rw [e, List.getElem?_append_left (List.getElem?_eq_some_iff.1 hv).1]
  exact hv)
theorem At.take8 {w : World} {A : Option Addr} {l : List UInt8} (h : At w A l) (n : Nat) : At w A (l.take n) := by
  rcases h with rfl | ⟨b, o, e, hb, hi⟩
  · left; simp
  · exact .inr ⟨b, o, e, hb, hi.take8 n⟩

theorem below_drewN8 {a b : World} (h : Below a.heap.size a b) (n : Nat) : Below a.heap.size a (b.drewN n) := by
  induction n with
  | zero => exact h
  | succ n ih => exact ih.drew

set_option maxRecDepth 100000 in
set_option maxHeartbeats 2000000 in
theorem specFall_any (su keep : Int) (A : Option Addr) (cap : Nat) (l : List UInt8) (hl : l.length ≤ 1048576) (hcap : l.length ≤ cap ∧ cap ≤ maxLen) (w : World) (hA : At w A l) :
    Calls Try.prog 21 #[.agg #[.slice A l.length cap, .int .i64 su], .int .i64 keep] w fun e w' => ∃ v, e = .returned (.agg #[v, .int .i64 (fallS su l.length keep)]) ∧ NewB w.heap.size w' v (fallL su l keep) ∧ Below w.heap.size w w' := by
  have HA := hidP hA
  have HD : Hid (∀ W : World, Calls Try.prog 8 #[.agg #[.slice A l.length cap, .int .i64 su]] W fun e w' => e = .returned (.bool (diskB su l.length)) ∧ Below W.heap.size W w') := fun W => specDiskOk_any su A l.length cap (by omega) W
  clear hA
  have hS : Hid (fallS su l.length keep = if diskB su l.length then (fallN su l.length keep : Int) else su) := rfl
  have hL : Hid (fallL su l keep = if diskB su l.length then l.take (fallN su l.length keep) else l) := rfl
  have hF : Hid (diskB su l.length = true → 0 ≤ su ∧ su ≤ (l.length : Int) ∧ 0 ≤ fallZ su l.length keep ∧ su + fallZ su l.length keep ≤ (l.length : Int) ∧ (fallN su l.length keep : Int) = su + fallZ su l.length keep ∧ fallN su l.length keep ≤ l.length) := fun h => ⟨(diskB_out h).2.1, (diskB_out h).2.2, fall_fit h keep⟩
  have hZ : Hid (fallZ su l.length keep = max 0 (min keep ((l.length : Int) - su))) := rfl
  generalize fallS su l.length keep = fs at hS ⊢
  generalize fallL su l keep = L at hL ⊢
  generalize diskB su l.length = bb at HD hS hL hF
  generalize fallN su l.length keep = fn at hS hL hF
  generalize fallZ su l.length keep = fz at hF hZ
  have B0 : Below w.heap.size w ((w.alloc (.cells #[.slice A l.length cap, .int .i64 su] 27)).alloc (.cells #[.slice none 0 0, .int .i64 0] 27)) := alloc0 (alloc0 (Below.refl _ _) _) _
  have p := (Blk.new w 27 #[.slice A l.length cap, .int .i64 su]).alloc (.cells #[.slice none 0 0, .int .i64 0] 27)
  have r := Blk.new (w.alloc (.cells #[.slice A l.length cap, .int .i64 su] 27)) 27 #[.slice none 0 0, .int .i64 0]
  rw [World.size_alloc] at r
  go_enter Try.func21, Try.ntmps21
  go_wp2_with fail
  generalize (w.alloc (.cells #[.slice A l.length cap, .int .i64 su] 27)).alloc (.cells #[.slice none 0 0, .int .i64 0] 27) = W0 at p r B0 ⊢
  refine (HD.out _).mono ?_
  rintro e w2 ⟨rfl, g2⟩
  have B2 := via0 g2 B0
  replace p := p.below g2 p.lt
  replace r := r.below g2 r.lt
  have zr := r.lt
  have z0 := B2.size
  clear g2
  obtain ⟨u0, u1⟩ := p.row2
  cases bb
  · have eS : fs = su := hS.out
    have eL : L = l := hL.out
    subst eS eL
    go_wp2_with fail
    refine (l10Copy_any fs A cap L (by omega) _ (HA.out.below B2)).mono ?_
    rintro e w3 ⟨a, c, rfl, o3, g3⟩
    have B3 := via0 g3 B2
    replace r := r.below g3 r.lt
    have N3 := hidP (newB_owns rfl o3)
    have R := (r.setAt 0 (.slice a L.length c)).setAt 1 (.int .i64 fs)
    obtain ⟨e0, e1⟩ := Blk.row2 R
    obtain ⟨r0, r1⟩ := r.row2
    have f0 := r.thaw 0
    have f1 := r.thaw 1
    clear R o3 g3 u0 u1
    go_wp2
    exact bodyPost_ret (v := .agg #[.slice a L.length c, .int .i64 fs]) (by simp [results, Try.results21, go_sem, e0, e1]) rfl
      ⟨_, rfl, newB_mono (newB_set (newB_set N3.out zr) zr) z0, bl_set (bl_set B3 (by omega) _) (by omega) _⟩
  · have eS : Hid (fs = (fn : Int)) := hS.out
    have eL : Hid (L = l.take fn) := hL.out
    obtain ⟨s0, s1, k0, k1, k2, k3⟩ := hF.out rfl
    have hw1 : IntKind.i64.wrap ((l.length : Int) - su) = (l.length : Int) - su := by rw [IntKind.wrap_i64]; omega
    have hw2 : IntKind.i64.wrap (su + fz) = su + fz := by rw [IntKind.wrap_i64]; omega
    go_wp2_with fail
    go_quiet (first
      | (go_at_call 33; refine Calls.quiet_of_same ((min_any _ _ _).mono (fun e w' h => h)))
      | (go_at_call 32; refine Calls.quiet_of_same ((max_any _ _ _).mono (fun e w' h => h))))
    have ez : su + max 0 (min keep ((l.length : Int) - su)) = (fn : Int) := by rw [k2, hZ.out]
    rw [ez]
    have g3 : Below w2.heap.size w2 (w2.drewN nq) := below_drewN8 (Below.refl _ _) nq
    generalize w2.drewN nq = w3 at g3 ⊢
    have B3 := via0 g3 B2
    replace p := p.below g3 p.lt
    replace r := r.below g3 r.lt
    have zr3 := r.lt
    have z3 := B3.size
    have et : (l.take fn).length = fn := by rw [List.length_take]; omega
    obtain ⟨v4, w4, hr4, own4, gr4, at4⟩ := append_els8 w3.heap.size (.slice (some ⟨w3.heap.size, 0, none⟩) 0 0) [] (l.take fn) A cap (w3.alloc (.cells #[] 5)) (by simp)
      ⟨rfl, .inr ⟨w3.heap.size, 0, #[], rfl, Nat.le_refl _, Blk.new w3 5 #[], Nat.le_refl _, by simp [maxLen], rfl, rfl⟩⟩ ((HA.out.below (alloc0 B3 _)).take8 fn) (by simp; omega)
    rw [et] at hr4 own4
    simp only [List.length_nil, Nat.zero_add, List.nil_append] at own4
    obtain ⟨a4, c4, rfl, _⟩ := owns_form own4
    have B4 : Below w.heap.size w w4 := (alloc0 B3 (.cells #[] 5)).grown gr4 (by simp; omega) (fun k e => by have : w3.heap.size = k := Option.some.inj e; omega)
    have r4 := (r.alloc (.cells #[] 5)).kept gr4 (by intro h; have : w.heap.size + 1 = w3.heap.size := Option.some.inj h; omega)
    have N4 := hidP (newB_owns et.symm own4)
    have R := (r4.setAt 0 (.slice a4 fn c4)).setAt 1 (.int .i64 (fn : Int))
    obtain ⟨e0, e1⟩ := Blk.row2 R
    obtain ⟨r0, r1⟩ := r4.row2
    have f0 := r4.thaw 0
    have f1 := r4.thaw 1
    obtain ⟨u0', u1'⟩ := (p.alloc (.cells #[] 5)).row2
    have hcut : ∀ W : World, (Instr.slice 22 (.slice A l.length cap) none (some (.int .i64 (fn : Int))) none).run Try.prog W = .ok (.slice A fn cap) W := fun W => cut_to8 A l.length cap fn (by omega) hcap.2 W
    clear R own4 at4 gr4 u0 u1 hw1 hw2 ez et k2 g3
    go_wp2_with (at_builtin; refine wpList_append_is rfl _ _ _ rfl _ _ _ rfl rfl hr4 ?_)
    have eS' := eS.out
    subst eS'
    exact bodyPost_ret (v := .agg #[.slice a4 fn c4, .int .i64 (fn : Int)]) (by simp [results, Try.results21, go_sem, e0, e1]) rfl
      ⟨_, rfl, by rw [eL.out]; exact newB_mono (newB_set (newB_set N4.out zr3) zr3) z3, bl_set (bl_set B4 (by omega) _) (by omega) _⟩
end Go.Proofs.Ytdcngbkcammjoaa.Gen
