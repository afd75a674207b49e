/-
  spec.Append, Sync, Fall: what they answer. No condition but that there are at most 1048576 bytes.
-/
import Derived.Test.YtdcngbkcammjoaaDk2
namespace Go.Proofs.Ytdcngbkcammjoaa.Gen
open Go.ChangeShapes Go.WideShapes Go.ChangeAt Go.RowKit Go.Joins Go.Deep Base
set_option linter.unusedVariables false

def okA (su : Int) (n m : Nat) : Bool := diskB su n && decide (n + m ≤ 80000)
def appL (su : Int) (l b : List UInt8) : List UInt8 := if okA su l.length b.length then l ++ b else l
def fallZ (su : Int) (n : Nat) (keep : Int) : Int := max 0 (min keep ((n : Int) - su))
def fallN (su : Int) (n : Nat) (keep : Int) : Nat := (su + fallZ su n keep).toNat
def fallL (su : Int) (l : List UInt8) (keep : Int) : List UInt8 := if diskB su l.length then l.take (fallN su l.length keep) else l
def fallS (su : Int) (n : Nat) (keep : Int) : Int := if diskB su n then (fallN su n keep : Int) else su
def syncS (su : Int) (n : Nat) : Int := if diskB su n then (n : Int) else su
theorem fall_fit {su : Int} {n : Nat} (h : diskB su n = true) (keep : Int) : 0 ≤ fallZ su n keep ∧ su + fallZ su n keep ≤ (n : Int) ∧ (fallN su n keep : Int) = su + fallZ su n keep ∧ fallN su n keep ≤ n := by
  obtain ⟨_, h1, h2⟩ := diskB_out h
  have e1 : 0 ≤ fallZ su n keep := by unfold fallZ; omega
  have e2 : su + fallZ su n keep ≤ (n : Int) := by unfold fallZ; omega
  refine ⟨e1, e2, ?_, ?_⟩ <;> unfold fallN <;> omega

/-- The list l as a new slice: all its memory is not below B. -/
def NewB (B : Nat) (w : World) (v : Value) (l : List UInt8) : Prop := ∃ a c F, v = .slice a l.length c ∧ l.length ≤ c ∧ c ≤ maxLen ∧ Sl w a l F ∧ (∀ x ∈ F, B ≤ x)
theorem newB_owns {B n : Nat} {W : World} {v : Value} {l : List UInt8} (hn : n = l.length) (h : W.ownsRow B 5 1 v n (flat l)) : NewB B W v l := by
  subst hn
  have hf := fresh_owns (t := 5) h
  have hc : ∃ a c, v = .slice a l.length c ∧ l.length ≤ c ∧ c ≤ maxLen := by
    rcases h.2 with ⟨rfl, h0⟩ | ⟨g, c, cur, rfl, _, _, h1, h2, _⟩
    · exact ⟨none, 0, by rw [h0], by omega, by simp [maxLen]⟩
    · exact ⟨_, c, rfl, h1, h2⟩
  obtain ⟨a, c, rfl, h1, h2⟩ := hc
  obtain ⟨_, F, hs, hF⟩ := Sl.of_fresh hf
  exact ⟨a, c, F, rfl, h1, h2, hs, hF⟩
theorem newB_mono {B C : Nat} {W : World} {v : Value} {l : List UInt8} (h : NewB B W v l) (hC : C ≤ B) : NewB C W v l := by
  obtain ⟨a, c, F, e, h1, h2, hs, hF⟩ := h
  exact ⟨a, c, F, e, h1, h2, hs, fun x hx => Nat.le_trans hC (hF x hx)⟩
theorem newB_below {B : Nat} {W W' : World} {v : Value} {l : List UInt8} (h : NewB B W v l) (g : Below W.heap.size W W') : NewB B W' v l := by
  obtain ⟨a, c, F, e, h1, h2, hs, hF⟩ := h
  exact ⟨a, c, F, e, h1, h2, hs.below g, hF⟩
theorem newB_set {B C i : Nat} {W : World} {v u : Value} {l : List UInt8} (h : NewB B W v l) (hC : C < B) : NewB B (W.setCell ⟨C, i, none⟩ u) v l := by
  obtain ⟨a, c, F, e, h1, h2, hs, hF⟩ := h
  exact ⟨a, c, F, e, h1, h2, hs.off (Off.of_only ((Only.refl C W).set i u)) (fun x hx hm => by have := hF x hx; simp at hm; omega), hF⟩

theorem min_any (a b : Int) (w : World) : Calls Try.prog 33 #[.int .i64 a, .int .i64 b] w fun e w' => e = .returned (.int .i64 (min a b)) ∧ w' = w := by
  by_cases h : a < b
  · rw [show min a b = a by omega]
    go_enter Try.func33, Try.ntmps33
    go_wp2
    go_ret
    exact ⟨rfl, rfl⟩
  · rw [show min a b = b by omega]
    go_enter Try.func33, Try.ntmps33
    go_wp2
    go_ret
    exact ⟨rfl, rfl⟩
theorem max_any (a b : Int) (w : World) : Calls Try.prog 32 #[.int .i64 a, .int .i64 b] w fun e w' => e = .returned (.int .i64 (max a b)) ∧ w' = w := by
  by_cases h : b < a
  · rw [show max a b = a by omega]
    go_enter Try.func32, Try.ntmps32
    go_wp2
    go_ret
    exact ⟨rfl, rfl⟩
  · rw [show max a b = b by omega]
    go_enter Try.func32, Try.ntmps32
    go_wp2
    go_ret
    exact ⟨rfl, rfl⟩

set_option maxRecDepth 100000 in
set_option maxHeartbeats 2000000 in
theorem specSync_any (su : Int) (A : Option Addr) (cap : Nat) (l : List UInt8) (hl : l.length ≤ 1048576) (w : World) (hA : At w A l) :
    Calls Try.prog 19 #[.agg #[.slice A l.length cap, .int .i64 su]] w fun e w' => ∃ v, e = .returned (.agg #[v, .int .i64 (syncS su l.length)]) ∧ NewB w.heap.size w' v l ∧ Below w.heap.size w w' := by
  have HA := hidP hA
  have HD : Hid (∀ W : World, Calls Try.prog 8 #[.agg #[.slice A l.length cap, .int .i64 su]] W fun e w' => e = .returned (.bool (diskB su l.length)) ∧ Below W.heap.size W w') := fun W => specDiskOk_any su A l.length cap (by omega) W
  clear hA
  unfold syncS
  generalize diskB su l.length = bb at HD ⊢
  have B0 : Below w.heap.size w ((w.alloc (.cells #[.slice A l.length cap, .int .i64 su] 27)).alloc (.cells #[.slice none 0 0, .int .i64 0] 27)) := alloc0 (alloc0 (Below.refl _ _) _) _
  have p := (Blk.new w 27 #[.slice A l.length cap, .int .i64 su]).alloc (.cells #[.slice none 0 0, .int .i64 0] 27)
  have r := Blk.new (w.alloc (.cells #[.slice A l.length cap, .int .i64 su] 27)) 27 #[.slice none 0 0, .int .i64 0]
  rw [World.size_alloc] at r
  go_enter Try.func19, Try.ntmps19
  go_wp2_with fail
  generalize (w.alloc (.cells #[.slice A l.length cap, .int .i64 su] 27)).alloc (.cells #[.slice none 0 0, .int .i64 0] 27) = W0 at p r B0 ⊢
  have zr := r.lt
  refine (l10Copy_any su A cap l (by omega) _ (HA.out.below B0)).mono ?_
  rintro e w1 ⟨a, c, rfl, o1, g1⟩
  have B1 : Below w.heap.size w (w1.alloc (.cells #[.slice a l.length c, .int .i64 su] 27)) := alloc0 (via0 g1 B0) _
  replace p := (p.below g1 p.lt).alloc (.cells #[.slice a l.length c, .int .i64 su] 27)
  replace r := (r.below g1 r.lt).alloc (.cells #[.slice a l.length c, .int .i64 su] 27)
  have o := Blk.new w1 27 #[.slice a l.length c, .int .i64 su]
  have O1 := hidP o1
  have z2 := Nat.lt_of_lt_of_le zr g1.size
  have zo := g1.size
  have z0 := B0.size
  clear o1 g1
  obtain ⟨u0, u1⟩ := p.row2
  go_wp2_with fail
  refine (HD.out _).mono ?_
  rintro e w2 ⟨rfl, g2⟩
  have B2 := via0 g2 B1
  replace p := p.below g2 p.lt
  replace r := r.below g2 r.lt
  replace o := o.below g2 o.lt
  have G : Below w1.heap.size w1 w2 := via0 g2 (alloc0 (Below.refl _ _) _)
  have O2 := hidP (owns_below O1.out G)
  have HG := hidP G
  have zo2 := o.lt
  clear u0 u1 g2 G
  obtain ⟨u0, u1⟩ := p.row2
  obtain ⟨o0, o1⟩ := o.row2
  obtain ⟨r0, r1⟩ := r.row2
  have f0 := r.thaw 0
  have f1 := r.thaw 1
  have f2 := o.thaw 1
  have f3 := o.thaw 0
  cases bb
  · have R := (r.setAt 0 (.slice a l.length c)).setAt 1 (.int .i64 su)
    obtain ⟨e0, e1⟩ := Blk.row2 R
    clear R
    go_wp2
    exact bodyPost_ret (v := .agg #[.slice a l.length c, .int .i64 su]) (by simp [results, Try.results19, go_sem, e0, e1]) rfl
      ⟨_, rfl, newB_mono (newB_set (newB_set (newB_below (newB_owns rfl O1.out) HG.out) zr) zr) z0, bl_set (bl_set B2 (by omega) _) (by omega) _⟩
  · have R := ((r.other (B' := w1.heap.size) (by omega) 1 (.int .i64 (l.length : Int))).setAt 0 (.slice a l.length c)).setAt 1 (.int .i64 (l.length : Int))
    obtain ⟨e0, e1⟩ := Blk.row2 R
    clear R
    go_wp2
    exact bodyPost_ret (v := .agg #[.slice a l.length c, .int .i64 (l.length : Int)]) (by simp [results, Try.results19, go_sem, e0, e1]) rfl
      ⟨_, rfl, newB_mono (newB_set (newB_set (newB_below (newB_owns rfl O1.out) (bl_set HG.out (Nat.le_refl _) _)) zr) zr) z0, bl_set (bl_set (bl_set B2 (by omega) _) (by omega) _) (by omega) _⟩

set_option maxRecDepth 100000 in
set_option maxHeartbeats 2000000 in
theorem specAppend_any (su : Int) (A A2 : Option Addr) (cap cap2 : Nat) (l b : List UInt8) (hl : l.length ≤ 1048576) (hb : b.length ≤ 1048576) (w : World) (hA : At w A l) (hA2 : At w A2 b) :
    Calls Try.prog 12 #[.agg #[.slice A l.length cap, .int .i64 su], .slice A2 b.length cap2] w fun e w' => ∃ v, e = .returned (.tuple #[.agg #[v, .int .i64 su], .bool (okA su l.length b.length)]) ∧ NewB w.heap.size w' v (appL su l b) ∧ Below w.heap.size w w' := by
  have HA := hidP hA
  have HA2 := hidP hA2
  clear hA2
  have HD : Hid (∀ W : World, Calls Try.prog 8 #[.agg #[.slice A l.length cap, .int .i64 su]] W fun e w' => e = .returned (.bool (diskB su l.length)) ∧ Below W.heap.size W w') := fun W => specDiskOk_any su A l.length cap (by omega) W
  clear hA
  have hok : Hid (okA su l.length b.length = (diskB su l.length && decide (l.length + b.length ≤ 80000))) := rfl
  have hL : Hid (appL su l b = if okA su l.length b.length then l ++ b else l) := rfl
  generalize appL su l b = L at hL ⊢
  generalize okA su l.length b.length = ok at hok hL ⊢
  generalize diskB su l.length = bb at HD hok
  have B0 : Below w.heap.size w ((w.alloc (.cells #[.slice A l.length cap, .int .i64 su] 27)).alloc (.cells #[.slice none 0 0, .int .i64 0] 27)) := alloc0 (alloc0 (Below.refl _ _) _) _
  have p := (Blk.new w 27 #[.slice A l.length cap, .int .i64 su]).alloc (.cells #[.slice none 0 0, .int .i64 0] 27)
  have r := Blk.new (w.alloc (.cells #[.slice A l.length cap, .int .i64 su] 27)) 27 #[.slice none 0 0, .int .i64 0]
  rw [World.size_alloc] at r
  go_enter Try.func12, Try.ntmps12
  go_wp2_with fail
  generalize (w.alloc (.cells #[.slice A l.length cap, .int .i64 su] 27)).alloc (.cells #[.slice none 0 0, .int .i64 0] 27) = W0 at p r B0 ⊢
  have zr := r.lt
  refine (l10Copy_any su A cap l (by omega) _ (HA.out.below B0)).mono ?_
  rintro e w1 ⟨a, c, rfl, o1, g1⟩
  have B1 : Below w.heap.size w (w1.alloc (.cells #[.slice a l.length c, .int .i64 su] 27)) := alloc0 (via0 g1 B0) _
  replace p := (p.below g1 p.lt).alloc (.cells #[.slice a l.length c, .int .i64 su] 27)
  replace r := (r.below g1 r.lt).alloc (.cells #[.slice a l.length c, .int .i64 su] 27)
  have o := Blk.new w1 27 #[.slice a l.length c, .int .i64 su]
  have O1 := hidP o1
  have z2 := Nat.lt_of_lt_of_le zr g1.size
  have zo := g1.size
  have z0 := B0.size
  clear o1 g1
  obtain ⟨u0, u1⟩ := p.row2
  go_wp2_with fail
  refine (HD.out _).mono ?_
  rintro e w2 ⟨rfl, g2⟩
  have B2 := via0 g2 B1
  replace p := p.below g2 p.lt
  replace r := r.below g2 r.lt
  replace o := o.below g2 o.lt
  have G : Below w1.heap.size w1 w2 := via0 g2 (alloc0 (Below.refl _ _) _)
  have O2 := hidP (owns_below O1.out G)
  have HG := hidP G
  have zo2 := o.lt
  clear u0 u1 g2 G
  obtain ⟨u0, u1⟩ := p.row2
  obtain ⟨o0, o1⟩ := o.row2
  obtain ⟨r0, r1⟩ := r.row2
  have f0 := r.thaw 0
  have f1 := r.thaw 1
  have f2 := o.thaw 1
  have f3 := o.thaw 0
  cases bb
  · have eok : ok = false := by rw [hok.out]; rfl
    have eL : L = l := by rw [hL.out, eok]; rfl
    subst eok eL
    have R := (r.setAt 0 (.slice a L.length c)).setAt 1 (.int .i64 su)
    obtain ⟨e0, e1⟩ := Blk.row2 R
    clear R
    go_wp2
    exact bodyPost_ret (v := .tuple #[.agg #[.slice a L.length c, .int .i64 su], .bool false]) (by simp [results, Try.results12, go_sem, e0, e1]) rfl
      ⟨_, rfl, newB_mono (newB_set (newB_set (newB_below (newB_owns rfl O1.out) HG.out) zr) zr) z0, bl_set (bl_set B2 (by omega) _) (by omega) _⟩
  · by_cases hfit : (b.length : Int) > 80000 - (l.length : Int)
    · have eok : ok = false := by rw [hok.out, Bool.true_and]; exact decide_eq_false (by omega)
      have eL : L = l := by rw [hL.out, eok]; rfl
      subst eok eL
      have R := (r.setAt 0 (.slice a L.length c)).setAt 1 (.int .i64 su)
      obtain ⟨e0, e1⟩ := Blk.row2 R
      clear R
      go_wp2
      exact bodyPost_ret (v := .tuple #[.agg #[.slice a L.length c, .int .i64 su], .bool false]) (by simp [results, Try.results12, go_sem, e0, e1]) rfl
        ⟨_, rfl, newB_mono (newB_set (newB_set (newB_below (newB_owns rfl O1.out) HG.out) zr) zr) z0, bl_set (bl_set B2 (by omega) _) (by omega) _⟩
    · have eok : ok = true := by rw [hok.out, Bool.true_and]; exact decide_eq_true (by omega)
      have eL : Hid (L = l ++ b) := by show L = _; rw [hL.out, eok]; rfl
      subst eok
      obtain ⟨v3, w3, hr3, own3, gr3, at3⟩ := append_els8 W0.heap.size (.slice a l.length c) l b A2 cap2 w2 (by omega) O2.out (HA2.out.below B2) (by omega)
      obtain ⟨a3, c3, rfl, _⟩ := owns_form own3
      have far : ∀ C, C < W0.heap.size → some C ≠ (Value.slice a l.length c).ownBlock := fun C hC => owns_far O2.out hC
      have faro : some w1.heap.size ≠ (Value.slice a l.length c).ownBlock := fun e => Nat.lt_irrefl _ (owns_lt O1.out e.symm)
      have r3 := r.kept gr3 (far _ zr)
      have o3 := o.kept gr3 faro
      have B3 : Below w.heap.size w w3 := B2.grown gr3 B2.size (fun k e => by have := owns_far O2.out (C := k); exact Nat.le_of_not_lt fun h => far k (by omega) e.symm)
      have zo3 : some w1.heap.size ≠ (Value.slice a3 (l.length + b.length) c3).ownBlock := by
        rcases at3 with e | e
        · rw [e]; exact faro
        · rw [e]; intro h; have := Option.some.inj h; omega
      have R := ((r3.other (B' := w1.heap.size) (by omega) 0 (.slice a3 (l.length + b.length) c3)).setAt 0 (.slice a3 (l.length + b.length) c3)).setAt 1 (.int .i64 su)
      obtain ⟨e0, e1⟩ := Blk.row2 R
      obtain ⟨o0', o1'⟩ := o3.row2
      have f3' := o3.thaw 0
      obtain ⟨r0', r1'⟩ := r3.row2
      have f0' := r3.thaw 0
      have f1' := r3.thaw 1
      have O3 := hidP own3
      have Z3 := hidP zo3
      clear R own3 zo3 at3 far faro gr3
      go_wp2_with (at_builtin; refine wpList_append_is rfl _ _ _ rfl _ _ _ rfl rfl hr3 ?_)
      exact bodyPost_ret (v := .tuple #[.agg #[.slice a3 (l.length + b.length) c3, .int .i64 su], .bool true]) (by simp [results, Try.results12, go_sem, e0, e1]) rfl
        ⟨_, rfl, by
          have h := newB_mono (newB_set (C := w.heap.size + 1) (i := 1) (u := .int .i64 su) (newB_set (C := w.heap.size + 1) (i := 0) (u := .slice a3 (l.length + b.length) c3) (newB_owns (l := l ++ b) (by simp) (owns_set (i := 0) (u := .slice a3 (l.length + b.length) c3) O3.out Z3.out)) zr) zr) z0
          rw [eL.out]; exact h, bl_set (bl_set (bl_set B3 (by omega) _) (by omega) _) (by omega) _⟩
end Go.Proofs.Ytdcngbkcammjoaa.Gen
