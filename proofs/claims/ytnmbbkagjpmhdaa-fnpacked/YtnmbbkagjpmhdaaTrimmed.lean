/-
  The program's rowOf.trimmed at this seat.
-/
import Derived.Test.YtnmbbkagjpmhdaaStartingAt
import Derived.Test.YtnmbbkagjpmhdaaOwns
namespace Go.Proofs.Ytnmbbkagjpmhdaa.Items
open Go.ChangeShapes Go.WideShapes Go.ChangeAt Go.RowKit Go.Shelf Base
set_option linter.unusedVariables false
set_option linter.unusedSimpArgs false

def endOf (off length : Int) : Int := wrap64 (wrap64 (dv off length + 1) * length)
theorem endOf_is {off length : Int} (h0 : 0 ≤ off) (h1 : off ≤ 100000) (h2 : 1 ≤ length) (h3 : length ≤ 9223372036854775807) : endOf off length = (off / length + 1) * length ∧ off < (off / length + 1) * length := by
  have e1 : Int.tdiv off length = off / length := Int.tdiv_eq_ediv_of_nonneg h0
  have q0 : 0 ≤ off / length := Int.ediv_nonneg h0 (by omega)
  have q1 : off / length ≤ off := Int.ediv_le_self _ h0
  have q2 : off / length * length ≤ off := Int.ediv_mul_le _ (by omega)
  have lt : off < (off / length + 1) * length := Int.lt_ediv_add_one_mul_self off (by omega)
  have ex : (off / length + 1) * length = off / length * length + length := by rw [Int.add_mul, Int.one_mul]
  have up : (off / length + 1) * length ≤ 9223372036854775807 := by
    by_cases hz : off / length = 0
    · rw [hz]; omega
    · have : length ≤ off := by
        have hq : 1 ≤ off / length := by omega
        have : 1 * length ≤ off / length * length := Int.mul_le_mul_of_nonneg_right hq (by omega)
        omega
      omega
  refine ⟨?_, lt⟩
  have w1 : dv off length = off / length := by unfold dv; rw [e1]; unfold wrap64; omega
  have w2 : wrap64 (off / length + 1) = off / length + 1 := by unfold wrap64; omega
  unfold endOf
  rw [w1, w2]
  have : 0 ≤ (off / length + 1) * length := by omega
  generalize (off / length + 1) * length = z at *
  unfold wrap64; omega

def off01 (l : List It) : Prop := ∀ x ∈ l, 0 ≤ x.off ∧ x.off ≤ 100000

/-- What is left: from where on, and which items. -/
def trimF (next length keep : Int) : Nat → Int → List It → Int × List It
  | 0, st, m => (st, m)
  | n + 1, st, [] => (st, [])
  | n + 1, st, x :: t => if keep < ((x :: t).length : Int) ∧ ¬ dv x.off length = dv (IntKind.i64.wrap (next - 1)) length then trimF next length keep n (endOf x.off length) ((x :: t).dropWhile fun y => decide (y.off < endOf x.off length)) else (st, x :: t)

theorem held3 {W : World} {B : Nat} {t : TypeId} {a b c : Value} (h : Blk W B t #[a, b, c]) : W.cell? ⟨B, 0, none⟩ = some a ∧ W.cell? ⟨B, 1, none⟩ = some b ∧ W.cell? ⟨B, 2, none⟩ = some c := h.row
theorem hidP {p : Prop} (h : p) : Hid p := h
theorem drop_le (p : It → Bool) (l : List It) : (l.dropWhile p).length ≤ l.length := (List.dropWhile_sublist p).length_le

def TrimRel (w wr : World) (start next length keep : Int) (cap : Nat) (l : List It) : Prop :=
  ∃ (m : List It) (st : Int) (a : Option Addr) (c n : Nat), Hid (Blk wr w.heap.size 63 #[.int .i64 st, .int .i64 next, .slice a m.length c]) ∧ Hid (Blk wr (w.heap.size + 1) 63 #[.int .i64 0, .int .i64 0, .slice none 0 0]) ∧ Hid (Below w.heap.size w wr) ∧ Hid (At w a m) ∧ Hid (m.length ≤ c) ∧ Hid (c ≤ cap) ∧ Hid (m.length ≤ 1048576) ∧ Hid (off01 m) ∧ Hid (m.length ≤ n) ∧ Hid (trimF next length keep n st m = trimF next length keep l.length start l)

theorem trim_round {w w2 wr : World} {start next length keep st : Int} {cap : Nat} {l t : List It} {x : It} {b o c n c2 k : Nat} {A2 : Option Addr} (h1 : 1 ≤ length) (h2 : length ≤ 9223372036854775807) (hoff : off01 (x :: t)) (hg : keep < ((x :: t).length : Int))
    (hv : (dv x.off length == dv (IntKind.i64.wrap (next - 1)) length) = false) (hlen : lenAt wr w.heap.size = (x :: t).length) (hm : (x :: t).length ≤ 1048576) (hcc : c ≤ cap) (hmn : (x :: t).length ≤ n)
    (hd : trimF next length keep n st (x :: t) = trimF next length keep l.length start l) (hA : At w (some ⟨b, o, none⟩) (x :: t)) (hB : Below w.heap.size w w2)
    (y0 : Blk w2 w.heap.size 63 #[.int .i64 st, .int .i64 next, .slice (some ⟨b, o, none⟩) k c]) (y1 : Blk w2 (w.heap.size + 1) 63 #[.int .i64 0, .int .i64 0, .slice none 0 0])
    (h21 : ((x :: t).dropWhile (fun y => decide (y.off < endOf x.off length))).length ≤ c2) (h22 : c2 ≤ c)
    (h23 : ∀ w0, At w0 (some ⟨b, o, none⟩) (x :: t) → At w0 A2 ((x :: t).dropWhile (fun y => decide (y.off < endOf x.off length)))) :
    TrimRel w (((w2.setCell ⟨w.heap.size, 0, none⟩ (.int .i64 (endOf x.off length))).setCell ⟨w.heap.size, 1, none⟩ (.int .i64 next)).setCell ⟨w.heap.size, 2, none⟩ (.slice A2 ((x :: t).dropWhile (fun y => decide (y.off < endOf x.off length))).length c2)) start next length keep cap l ∧
    lenAt (((w2.setCell ⟨w.heap.size, 0, none⟩ (.int .i64 (endOf x.off length))).setCell ⟨w.heap.size, 1, none⟩ (.int .i64 next)).setCell ⟨w.heap.size, 2, none⟩ (.slice A2 ((x :: t).dropWhile (fun y => decide (y.off < endOf x.off length))).length c2)) w.heap.size < lenAt wr w.heap.size := by
  have hx := hoff x (by simp)
  obtain ⟨he, hlt⟩ := endOf_is hx.1 hx.2 h1 h2
  rw [← he] at hlt
  have hD : (x :: t).dropWhile (fun y => decide (y.off < endOf x.off length)) = t.dropWhile (fun y => decide (y.off < endOf x.off length)) := List.dropWhile_cons_of_pos (by simpa using hlt)
  have hDl : ((x :: t).dropWhile (fun y => decide (y.off < endOf x.off length))).length ≤ t.length := by rw [hD]; exact drop_le _ _
  generalize hE : endOf x.off length = E at *
  have z0 : Blk _ w.heap.size 63 #[.int .i64 E, .int .i64 next, .slice A2 ((x :: t).dropWhile (fun y => decide (y.off < E))).length c2] := ((y0.setAt 0 (.int .i64 E)).setAt 1 (.int .i64 next)).setAt 2 (.slice A2 ((x :: t).dropWhile (fun y => decide (y.off < E))).length c2)
  refine ⟨⟨_, E, A2, c2, n - 1, z0, ((y1.other (by omega) _ _).other (by omega) _ _).other (by omega) _ _, bl_set (bl_set (bl_set hB (Nat.le_refl _) _) (Nat.le_refl _) _) (Nat.le_refl _) _, h23 w hA, h21, Nat.le_trans h22 hcc, ?_, ?_, ?_, ?_⟩, ?_⟩
  · show _ ≤ _; simp at hm; omega
  · show off01 _
    exact fun y hy => hoff y ((List.dropWhile_sublist _).subset hy)
  · show _ ≤ _; simp at hmn; omega
  · show _ = _
    rw [← hd]
    cases n with
    | zero => simp at hmn
    | succ n =>
      simp only [trimF]
      rw [if_pos ⟨hg, fun h => by rw [h] at hv; simp at hv⟩, hE]
      rfl
  · rw [lenAt_is z0.row.2.2, hlen]
    simp only [List.length_cons]
    omega

set_option maxRecDepth 100000 in
set_option maxHeartbeats 3000000 in
theorem trimmed_any (start next length keep : Int) (h1 : 1 ≤ length) (h2 : length ≤ 9223372036854775807) (hk : 0 ≤ keep) (A : Option Addr) (cap : Nat) (l : List It) (hl : l.length ≤ 1048576) (hc : l.length ≤ cap) (hc' : cap ≤ 9223372036854775807) (ho : off01 l) (w : World) (hA : At w A l) :
    Calls Try.prog 49 #[.agg #[.int .i64 start, .int .i64 next, .slice A l.length cap], .int .i64 length, .int .i64 keep] w fun e w' => ∃ v, e = .returned (.agg #[.int .i64 (trimF next length keep l.length start l).1, .int .i64 next, v]) ∧
      w'.ownsRow w.heap.size 34 5 v (trimF next length keep l.length start l).2.length (flat (trimF next length keep l.length start l).2) ∧ Below w.heap.size w w' := by
  have HA : Hid (At w A l) := hA
  have Ho : Hid (off01 l) := ho
  clear hA ho
  go_enter Try.func49, Try.ntmps49
  go_wp2_with fail
  go_loopw [] (fun wr => TrimRel w wr start next length keep cap l) (fun wr => lenAt wr w.heap.size)
  case atStart =>
    have p1 := Blk.new (w.alloc (.cells #[.int .i64 start, .int .i64 next, .slice A l.length cap] 63)) 63 #[.int .i64 0, .int .i64 0, .slice none 0 0]
    rw [World.size_alloc] at p1
    exact ⟨l, start, A, cap, l.length, (Blk.new w 63 #[.int .i64 start, .int .i64 next, .slice A l.length cap]).alloc _, p1, alloc0 (alloc0 (Below.refl _ _) _) _, HA.out, hc, Nat.le_refl _, hl, Ho.out, Nat.le_refl _, rfl⟩
  case round =>
    obtain ⟨m, st, a, c, n, b0, b1, hB, hA, hmc, hcc, hm, hoff, hmn, hd⟩ := hrel
    obtain ⟨c0, c1, c2⟩ := b0.out.row
    have q0 := b0.out.lt
    have q1 := b1.out.lt
    have hlen := lenAt_is c2
    have SD : Hid _ := held3 b0.out.drew
    by_cases hg : keep < (m.length : Int)
    · obtain ⟨x, t, rfl⟩ : ∃ x t, m = x :: t := by cases m with | nil => simp at hg; omega | cons x t => exact ⟨x, t, rfl⟩
      obtain ⟨b, o, rfl, hb, hin⟩ : ∃ b o, a = some ⟨b, o, none⟩ ∧ b < w.heap.size ∧ In w b o (x :: t) := hA.out.resolve_left (by simp)
      obtain ⟨x0, x1, x2, x3, x4⟩ := (hin.below hb hB.out).get 0 (by simp)
      simp only [Nat.zero_mul, Nat.add_zero, List.getElem_cons_zero] at x0 x1 x2 x3 x4
      have hqb : b < wr.heap.size := Nat.lt_of_lt_of_le hb hB.out.size
      generalize hkk : (x :: t).length = k at *
      have G : Hid (decide (keep < (k : Int)) = true) := decide_eq_true hg
      have hk0 : (0 : Int) < (k : Int) := by omega
      have hk1 : 0 < k := by omega
      generalize hv : (dv x.off length == dv (IntKind.i64.wrap (next - 1)) length) = v
      have SE : Hid (wr.drew.cell? ⟨w.heap.size, 0, none⟩ = some (.int .i64 st) ∧ wr.drew.cell? ⟨w.heap.size, 1, none⟩ = some (.int .i64 next) ∧ wr.drew.cell? ⟨w.heap.size, 2, none⟩ = some (.slice (some ⟨b, o, none⟩) k c) ∧ wr.drew.cell? ⟨b, o, none⟩ = some (.int .i64 x.off) ∧ wr.drew.cell? ⟨b, o + 1, none⟩ = some (.string x.key) ∧ wr.drew.cell? ⟨b, o + 2, none⟩ = some (.string x.text) ∧ wr.drew.cell? ⟨b, o + 3, none⟩ = some (.int .i64 x.who) ∧ wr.drew.cell? ⟨b, o + 4, none⟩ = some (.int .i64 x.time)) := ⟨c0, c1, c2, x0, x1, x2, x3, x4⟩
      have SK : ∀ w1, Below wr.drew.heap.size wr.drew w1 → (w1.cell? ⟨w.heap.size, 0, none⟩ = some (.int .i64 st) ∧ w1.cell? ⟨w.heap.size, 1, none⟩ = some (.int .i64 next) ∧ w1.cell? ⟨w.heap.size, 2, none⟩ = some (.slice (some ⟨b, o, none⟩) k c) ∧ w1.cell? ⟨b, o, none⟩ = some (.int .i64 x.off) ∧ w1.cell? ⟨b, o + 1, none⟩ = some (.string x.key) ∧ w1.cell? ⟨b, o + 2, none⟩ = some (.string x.text) ∧ w1.cell? ⟨b, o + 3, none⟩ = some (.int .i64 x.who) ∧ w1.cell? ⟨b, o + 4, none⟩ = some (.int .i64 x.time)) := fun w1 g => by
        obtain ⟨k1, _⟩ := bcell g
        exact ⟨(k1 _ _ q0).trans c0, (k1 _ _ q0).trans c1, (k1 _ _ q0).trans c2, (k1 _ _ hqb).trans x0, (k1 _ _ hqb).trans x1, (k1 _ _ hqb).trans x2, (k1 _ _ hqb).trans x3, (k1 _ _ hqb).trans x4⟩
      go_wp2_with fail
      refine wp_region_noPanic ?_
      refine wp_region_held_drew (S := (fun w' => w'.cell? ⟨w.heap.size, 0, none⟩ = some (.int .i64 st) ∧ w'.cell? ⟨w.heap.size, 1, none⟩ = some (.int .i64 next) ∧ w'.cell? ⟨w.heap.size, 2, none⟩ = some (.slice (some ⟨b, o, none⟩) k c) ∧ w'.cell? ⟨b, o, none⟩ = some (.int .i64 x.off) ∧ w'.cell? ⟨b, o + 1, none⟩ = some (.string x.key) ∧ w'.cell? ⟨b, o + 2, none⟩ = some (.string x.text) ∧ w'.cell? ⟨b, o + 3, none⟩ = some (.int .i64 x.who) ∧ w'.cell? ⟨b, o + 4, none⟩ = some (.int .i64 x.time))) (by kernel_rfl) ?_ (fun hH => ?_)
      · exact SE.out
      refine' wpAnyH_take (i := 0) (v := _) rfl (by kernel_rfl) (by kernel_rfl) (by kernel_rfl) (fun _ _ _ h => h) (Or.inl ⟨by rfl, ?hy8⟩) (by assumption) ?rest8
      case hy8 => (intro w hSw; (try dsimp only at hSw); go_simp <;> with_reducible rfl)
      try simp only [Act.put, List.setIfInBounds_toArray, List.set_cons_zero, List.set_cons_succ, List.getElem_toArray, List.getElem_cons_succ, List.getElem_cons_zero]
      refine' wpAnyH_take (i := 1) (v := _) rfl (by kernel_rfl) (by kernel_rfl) (by kernel_rfl) (fun _ _ _ h => h) (Or.inl ⟨by rfl, ?hy9⟩) (by assumption) ?rest9
      case hy9 => (intro w hSw; (try dsimp only at hSw); go_simp <;> with_reducible rfl)
      try simp only [Act.put, List.setIfInBounds_toArray, List.set_cons_zero, List.set_cons_succ, List.getElem_toArray, List.getElem_cons_succ, List.getElem_cons_zero]
      refine' wpAnyH_take (i := 2) (v := _) rfl (by kernel_rfl) (by kernel_rfl) (by kernel_rfl) (fun _ _ _ h => h) (Or.inl ⟨by rfl, ?hy10⟩) (by assumption) ?rest10
      case hy10 => (intro w hSw; (try dsimp only at hSw); go_simp <;> with_reducible rfl)
      try simp only [Act.put, List.setIfInBounds_toArray, List.set_cons_zero, List.set_cons_succ, List.getElem_toArray, List.getElem_cons_succ, List.getElem_cons_zero]
      refine' wpAnyH_take (i := 3) (v := _) rfl (by kernel_rfl) (by kernel_rfl) (by kernel_rfl) (fun _ _ _ h => h) (Or.inl ⟨by rfl, ?hy11⟩) (by assumption) ?rest11
      case hy11 => (intro w hSw; (try dsimp only at hSw); go_simp <;> with_reducible rfl)
      try simp only [Act.put, List.setIfInBounds_toArray, List.set_cons_zero, List.set_cons_succ, List.getElem_toArray, List.getElem_cons_succ, List.getElem_cons_zero]
      refine' wpAnyH_take (i := 4) (v := _) rfl (by kernel_rfl) (by kernel_rfl) (by kernel_rfl) (fun _ _ _ h => h) (Or.inl ⟨by rfl, ?hy12⟩) (by assumption) ?rest12
      case hy12 => (intro w hSw; (try dsimp only at hSw); go_simp <;> ((first | rw [G.out] | simp only [G.out] | skip) <;> with_reducible rfl))
      try simp only [Act.put, List.setIfInBounds_toArray, List.set_cons_zero, List.set_cons_succ, List.getElem_toArray, List.getElem_cons_succ, List.getElem_cons_zero]
      refine' wpAnyH_take (i := 5) (v := _) rfl (by kernel_rfl) (by kernel_rfl) (by kernel_rfl) (fun _ _ _ h => h) (Or.inl ⟨by rfl, ?hy13⟩) (by assumption) ?rest13
      case hy13 => (intro w hSw; (try dsimp only at hSw); go_simp <;> with_reducible rfl)
      try simp only [Act.put, List.setIfInBounds_toArray, List.set_cons_zero, List.set_cons_succ, List.getElem_toArray, List.getElem_cons_succ, List.getElem_cons_zero]
      refine' wpAnyH_take (i := 6) (v := _) rfl (by kernel_rfl) (by kernel_rfl) (by kernel_rfl) (fun _ _ _ h => h) (Or.inl ⟨by rfl, ?hy14⟩) (by assumption) ?rest14
      case hy14 => (intro w hSw; (try dsimp only at hSw); go_simp <;> with_reducible rfl)
      try simp only [Act.put, List.setIfInBounds_toArray, List.set_cons_zero, List.set_cons_succ, List.getElem_toArray, List.getElem_cons_succ, List.getElem_cons_zero]
      refine' wpAnyH_take (i := 7) (v := _) rfl (by kernel_rfl) (by kernel_rfl) (by kernel_rfl) (fun _ _ _ h => h) (Or.inl ⟨by rfl, ?hy15⟩) (by assumption) ?rest15
      case hy15 => (intro w hSw; (try dsimp only at hSw); go_simp <;> with_reducible rfl)
      try simp only [Act.put, List.setIfInBounds_toArray, List.set_cons_zero, List.set_cons_succ, List.getElem_toArray, List.getElem_cons_succ, List.getElem_cons_zero]
      refine' wpAnyH_take (i := 8) (v := _) rfl (by kernel_rfl) (by kernel_rfl) (by kernel_rfl) (fun _ _ _ h => h) (Or.inl ⟨by rfl, ?hy16⟩) (by assumption) ?rest16
      case hy16 => (intro w hSw; (try dsimp only at hSw); go_simp <;> with_reducible rfl)
      try simp only [Act.put, List.setIfInBounds_toArray, List.set_cons_zero, List.set_cons_succ, List.getElem_toArray, List.getElem_cons_succ, List.getElem_cons_zero]
      refine' wpAnyH_take (i := 9) (v := _) rfl (by kernel_rfl) (by kernel_rfl) (by kernel_rfl) (fun _ _ _ h => h) (Or.inl ⟨by rfl, ?hy17⟩) (by assumption) ?rest17
      case hy17 => (intro w hSw; (try dsimp only at hSw); go_simp <;> with_reducible rfl)
      try simp only [Act.put, List.setIfInBounds_toArray, List.set_cons_zero, List.set_cons_succ, List.getElem_toArray, List.getElem_cons_succ, List.getElem_cons_zero]
      refine' wpAnyH_take (i := 10) (v := _) rfl (by kernel_rfl) (by kernel_rfl) (by kernel_rfl) (fun _ _ _ h => h) (Or.inl ⟨by rfl, ?hy18⟩) (by assumption) ?rest18
      case hy18 => (intro w hSw; (try dsimp only at hSw); go_simp <;> with_reducible rfl)
      try simp only [Act.put, List.setIfInBounds_toArray, List.set_cons_zero, List.set_cons_succ, List.getElem_toArray, List.getElem_cons_succ, List.getElem_cons_zero]
      refine' wpAnyH_take (i := 11) (v := _) rfl (by kernel_rfl) (by kernel_rfl) (by kernel_rfl) (fun _ _ _ h => h) (Or.inl ⟨by rfl, ?hy19⟩) (by assumption) ?rest19
      case hy19 => (intro w hSw; (try dsimp only at hSw); go_simp <;> with_reducible rfl)
      try simp only [Act.put, List.setIfInBounds_toArray, List.set_cons_zero, List.set_cons_succ, List.getElem_toArray, List.getElem_cons_succ, List.getElem_cons_zero]
      refine wpAnyH_ready (rs := [12]) (by kernel_rfl) (by simp) (AllReadyH.cons rfl (fun K hK => ?_) AllReadyH.nil)
      simp only [List.getElem_toArray, List.getElem_cons_succ, List.getElem_cons_zero]
      go_simp
      (go_at_call 63; refine (inUse_any st next length h1 _ _ _ x _).mono ?_; rw [hv]; rintro e w1 ⟨rfl, g1⟩)
      refine hK.out _ _ ?_ (fun hH => ?_)
      · exact SK w1 g1
      clear hK K
      try simp only [Act.put, List.setIfInBounds_toArray, List.set_cons_zero, List.set_cons_succ, List.getElem_toArray, List.getElem_cons_succ, List.getElem_cons_zero]
      refine' wpAnyH_take (i := 13) (v := _) rfl (by kernel_rfl) (by kernel_rfl) (by kernel_rfl) (fun _ _ _ h => h) (Or.inl ⟨by rfl, ?hy20⟩) (by assumption) ?rest20
      case hy20 => (intro w hSw; (try dsimp only at hSw); go_simp <;> with_reducible rfl)
      try simp only [Act.put, List.setIfInBounds_toArray, List.set_cons_zero, List.set_cons_succ, List.getElem_toArray, List.getElem_cons_succ, List.getElem_cons_zero]
      refine' wpAnyH_take (i := 14) (v := _) rfl (by kernel_rfl) (by kernel_rfl) (by kernel_rfl) (fun _ _ _ h => h) (Or.inl ⟨by rfl, ?hy21⟩) (by assumption) ?rest21
      case hy21 => (intro w hSw; (try dsimp only at hSw); go_simp <;> with_reducible rfl)
      try simp only [Act.put, List.setIfInBounds_toArray, List.set_cons_zero, List.set_cons_succ, List.getElem_toArray, List.getElem_cons_succ, List.getElem_cons_zero]
      refine wpAnyH_done (by kernel_rfl) ?_ _
      refine NoPanic.normal ?_
      have B1w : Below w.heap.size w w1 := via0 g1 (Below.drew hB.out)
      have y0 := b0.out.drew.below g1 q0
      have y1 := b1.out.drew.below g1 q1
      have q2 := y0.lt
      subst hkk
      clear SE SK
      cases v
      · obtain ⟨x0, x1, x2, x3, x4⟩ := (hin.below hb B1w).get 0 (by simp)
        simp only [Nat.zero_mul, Nat.add_zero, List.getElem_cons_zero] at x0 x1 x2 x3 x4
        obtain ⟨r0, r1, r2⟩ := y0.row
        have f0 := y0.thaw 0
        have f1 := y0.thaw 1
        have f2 := y0.thaw 2
        have hm' := number_of x
        have hqb1 : b < w1.heap.size := Nat.lt_of_lt_of_le hb B1w.size
        have q2' : w.heap.size < w1.heap.size + 1 := Nat.lt_succ_of_lt q2
        have hk1' : (0 : Int) < ((t.length + 1 : Nat) : Int) := by omega
        clear c0 c1 c2
        go_wp2_with fail
        go_region_with (first
          | (go_at_call 92; refine (number_any x _).mono ?_; rintro e w' ⟨rfl, rfl⟩)
          | (go_at_call 65; refine (endOfLength_any _ _ h1 _).mono ?_; rintro e w' ⟨rfl, rfl⟩)
          | (go_at_call 64; refine (startingAt_any st next _ (some ⟨b, o, none⟩) c (x :: t) (Nat.le_trans hm.out (by omega)) hmc.out (Nat.le_trans hcc.out hc') _ (hA.out.below (by repeat (first | assumption | refine Below.drew ?_ | refine alloc0 ?_ _)))).mono ?_; rintro e w2 ⟨A2, c2, rfl, h21, h22, h23, g2⟩; obtain ⟨kk2, mm2⟩ := bcell g2))
        all_goals
          have BX : Below w1.heap.size w1 w2 := via0 g2 (by repeat (first | exact Below.refl _ _ | refine Below.drew ?_ | refine alloc0 ?_ _))
          go_wp2
          exact trim_round h1 h2 (x := x) (t := t) hoff.out hg hv hlen hm.out hcc.out hmn.out hd.out hA.out (via0 BX B1w) (y0.below BX q2) (y1.below BX y1.lt) h21 h22 h23
      · have E9 : Hid (trimF next length keep l.length start l = (st, x :: t)) := by
          show trimF next length keep l.length start l = (st, x :: t)
          rw [← hd.out]
          cases n with
          | zero => rfl
          | succ n => simp only [trimF]; rw [if_neg (fun h => h.2 (eq_of_beq hv))]
        obtain ⟨r0, r1, r2⟩ := y0.row
        clear c0 c1 c2 x0 x1 x2 x3 x4
        go_wp2_with fail
        refine (copied_any st next (some ⟨b, o, none⟩) c (x :: t) hm.out _ (hA.out.below B1w)).mono ?_
        rintro e w6 ⟨v6, rfl, hown6, g6⟩
        obtain ⟨a6, c6, rfl, _⟩ := owns_form hown6
        have z1 := (y1).below g6 (y1).lt
        obtain ⟨n0, n1, n2⟩ := z1.row
        have k0 := z1.thaw 0
        have k1 := z1.thaw 1
        have k2 := z1.thaw 2
        have far : some (w.heap.size + 1) ≠ (Value.slice a6 (x :: t).length c6).ownBlock := owns_far hown6 (y1).lt
        have Hown6 := hidP hown6
        have Far := hidP far
        have B6 := hidP (via0 g6 B1w)
        clear hown6 far
        go_wp2
        have z : Blk _ (w.heap.size + 1) 63 #[.int .i64 st, .int .i64 next, .slice a6 (t.length + 1) c6] := ((z1.setAt 0 (.int .i64 st)).setAt 1 (.int .i64 next)).setAt 2 (.slice a6 (t.length + 1) c6)
        obtain ⟨e0, e1, e2⟩ := z.row
        exact bodyPost_ret (v := .agg #[.int .i64 st, .int .i64 next, .slice a6 (t.length + 1) c6]) (by simp [results, Try.results49, go_sem, e0, e1, e2]) rfl
          ⟨_, by rw [E9.out], by rw [E9.out]; exact owns_mono (owns_set (owns_set (owns_set Hown6.out Far.out) Far.out) Far.out) (Nat.le_of_lt q2), bl_set (bl_set (bl_set B6.out (by omega) _) (by omega) _) (by omega) _⟩
    · have G : Hid (decide (keep < (m.length : Int)) = false) := decide_eq_false hg
      go_wp2_with fail
      refine wp_region_noPanic ?_
      refine wp_region_held_drew (S := (fun w' => w'.cell? ⟨w.heap.size, 0, none⟩ = some (.int .i64 st) ∧ w'.cell? ⟨w.heap.size, 1, none⟩ = some (.int .i64 next) ∧ w'.cell? ⟨w.heap.size, 2, none⟩ = some (.slice a m.length c))) (by kernel_rfl) ?_ (fun hH => ?_)
      · exact SD.out
      refine' wpAnyH_take (i := 0) (v := _) rfl (by kernel_rfl) (by kernel_rfl) (by kernel_rfl) (fun _ _ _ h => h) (Or.inl ⟨by rfl, ?hy1⟩) (by assumption) ?rest1
      case hy1 => (intro w hSw; (try dsimp only at hSw); go_simp <;> with_reducible rfl)
      try simp only [Act.put, List.setIfInBounds_toArray, List.set_cons_zero, List.set_cons_succ, List.getElem_toArray, List.getElem_cons_succ, List.getElem_cons_zero]
      refine' wpAnyH_take (i := 1) (v := _) rfl (by kernel_rfl) (by kernel_rfl) (by kernel_rfl) (fun _ _ _ h => h) (Or.inl ⟨by rfl, ?hy2⟩) (by assumption) ?rest2
      case hy2 => (intro w hSw; (try dsimp only at hSw); go_simp <;> with_reducible rfl)
      try simp only [Act.put, List.setIfInBounds_toArray, List.set_cons_zero, List.set_cons_succ, List.getElem_toArray, List.getElem_cons_succ, List.getElem_cons_zero]
      refine' wpAnyH_take (i := 2) (v := _) rfl (by kernel_rfl) (by kernel_rfl) (by kernel_rfl) (fun _ _ _ h => h) (Or.inl ⟨by rfl, ?hy3⟩) (by assumption) ?rest3
      case hy3 => (intro w hSw; (try dsimp only at hSw); go_simp <;> with_reducible rfl)
      try simp only [Act.put, List.setIfInBounds_toArray, List.set_cons_zero, List.set_cons_succ, List.getElem_toArray, List.getElem_cons_succ, List.getElem_cons_zero]
      refine' wpAnyH_take (i := 3) (v := _) rfl (by kernel_rfl) (by kernel_rfl) (by kernel_rfl) (fun _ _ _ h => h) (Or.inl ⟨by rfl, ?hy4⟩) (by assumption) ?rest4
      case hy4 => (intro w hSw; (try dsimp only at hSw); go_simp <;> with_reducible rfl)
      try simp only [Act.put, List.setIfInBounds_toArray, List.set_cons_zero, List.set_cons_succ, List.getElem_toArray, List.getElem_cons_succ, List.getElem_cons_zero]
      refine' wpAnyH_take (i := 4) (v := _) rfl (by kernel_rfl) (by kernel_rfl) (by kernel_rfl) (fun _ _ _ h => h) (Or.inl ⟨by rfl, ?hy5⟩) (by assumption) ?rest5
      case hy5 => (intro w hSw; (try dsimp only at hSw); go_simp <;> ((first | rw [G.out] | simp only [G.out] | skip) <;> with_reducible rfl))
      try simp only [Act.put, List.setIfInBounds_toArray, List.set_cons_zero, List.set_cons_succ, List.getElem_toArray, List.getElem_cons_succ, List.getElem_cons_zero]
      refine' wpAnyH_take (i := 5) (v := _) rfl (by kernel_rfl) (by kernel_rfl) (by kernel_rfl) (fun _ _ _ h => h) (Or.inl ⟨by rfl, ?hy6⟩) (by assumption) ?rest6
      case hy6 => (intro w hSw; (try dsimp only at hSw); go_simp <;> with_reducible rfl)
      try simp only [Act.put, List.setIfInBounds_toArray, List.set_cons_zero, List.set_cons_succ, List.getElem_toArray, List.getElem_cons_succ, List.getElem_cons_zero]
      refine wpAnyH_take (i := 6) (v := undef) rfl (by kernel_rfl) (by kernel_rfl) (by kernel_rfl) (fun _ _ _ h => h) (Or.inr ⟨by rfl, rfl⟩) (by assumption) ?_
      try simp only [Act.put, List.setIfInBounds_toArray, List.set_cons_zero, List.set_cons_succ, List.getElem_toArray, List.getElem_cons_succ, List.getElem_cons_zero]
      refine wpAnyH_take (i := 7) (v := undef) rfl (by kernel_rfl) (by kernel_rfl) (by kernel_rfl) (fun _ _ _ h => h) (Or.inr ⟨by rfl, rfl⟩) (by assumption) ?_
      try simp only [Act.put, List.setIfInBounds_toArray, List.set_cons_zero, List.set_cons_succ, List.getElem_toArray, List.getElem_cons_succ, List.getElem_cons_zero]
      refine wpAnyH_take (i := 8) (v := undef) rfl (by kernel_rfl) (by kernel_rfl) (by kernel_rfl) (fun _ _ _ h => h) (Or.inr ⟨by rfl, rfl⟩) (by assumption) ?_
      try simp only [Act.put, List.setIfInBounds_toArray, List.set_cons_zero, List.set_cons_succ, List.getElem_toArray, List.getElem_cons_succ, List.getElem_cons_zero]
      refine wpAnyH_take (i := 9) (v := undef) rfl (by kernel_rfl) (by kernel_rfl) (by kernel_rfl) (fun _ _ _ h => h) (Or.inr ⟨by rfl, rfl⟩) (by assumption) ?_
      try simp only [Act.put, List.setIfInBounds_toArray, List.set_cons_zero, List.set_cons_succ, List.getElem_toArray, List.getElem_cons_succ, List.getElem_cons_zero]
      refine wpAnyH_take (i := 10) (v := undef) rfl (by kernel_rfl) (by kernel_rfl) (by kernel_rfl) (fun _ _ _ h => h) (Or.inr ⟨by rfl, rfl⟩) (by assumption) ?_
      try simp only [Act.put, List.setIfInBounds_toArray, List.set_cons_zero, List.set_cons_succ, List.getElem_toArray, List.getElem_cons_succ, List.getElem_cons_zero]
      refine wpAnyH_take (i := 11) (v := undef) rfl (by kernel_rfl) (by kernel_rfl) (by kernel_rfl) (fun _ _ _ h => h) (Or.inr ⟨by rfl, rfl⟩) (by assumption) ?_
      try simp only [Act.put, List.setIfInBounds_toArray, List.set_cons_zero, List.set_cons_succ, List.getElem_toArray, List.getElem_cons_succ, List.getElem_cons_zero]
      refine wpAnyH_take (i := 12) (v := undef) rfl (by kernel_rfl) (by kernel_rfl) (by kernel_rfl) (fun _ _ _ h => h) (Or.inr ⟨by rfl, rfl⟩) (by assumption) ?_
      try simp only [Act.put, List.setIfInBounds_toArray, List.set_cons_zero, List.set_cons_succ, List.getElem_toArray, List.getElem_cons_succ, List.getElem_cons_zero]
      refine wpAnyH_take (i := 13) (v := undef) rfl (by kernel_rfl) (by kernel_rfl) (by kernel_rfl) (fun _ _ _ h => h) (Or.inr ⟨by rfl, rfl⟩) (by assumption) ?_
      try simp only [Act.put, List.setIfInBounds_toArray, List.set_cons_zero, List.set_cons_succ, List.getElem_toArray, List.getElem_cons_succ, List.getElem_cons_zero]
      refine' wpAnyH_take (i := 14) (v := _) rfl (by kernel_rfl) (by kernel_rfl) (by kernel_rfl) (fun _ _ _ h => h) (Or.inl ⟨by rfl, ?hy7⟩) (by assumption) ?rest7
      case hy7 => (intro w hSw; (try dsimp only at hSw); go_simp <;> with_reducible rfl)
      try simp only [Act.put, List.setIfInBounds_toArray, List.set_cons_zero, List.set_cons_succ, List.getElem_toArray, List.getElem_cons_succ, List.getElem_cons_zero]
      refine wpAnyH_done (by kernel_rfl) ?_ _
      refine NoPanic.normal ?_
      have E9 : Hid (trimF next length keep l.length start l = (st, m)) := by
        show trimF next length keep l.length start l = (st, m)
        rw [← hd.out]
        cases n with
        | zero => rfl
        | succ n => cases m with
          | nil => rfl
          | cons y t => simp only [trimF]; rw [if_neg (fun h => by have := h.1; omega)]
      go_wp2_with fail
      refine (copied_any st next a c m hm.out _ (hA.out.below (Below.drew hB.out))).mono ?_
      rintro e w6 ⟨v6, rfl, hown6, g6⟩
      obtain ⟨a6, c6, rfl, _⟩ := owns_form hown6
      have z1 := (b1.out.drew).below g6 (b1.out.drew).lt
      obtain ⟨n0, n1, n2⟩ := z1.row
      have k0 := z1.thaw 0
      have k1 := z1.thaw 1
      have k2 := z1.thaw 2
      have far : some (w.heap.size + 1) ≠ (Value.slice a6 (m).length c6).ownBlock := owns_far hown6 (b1.out.drew).lt
      have Hown6 := hidP hown6
      have Far := hidP far
      have B6 := hidP (via0 g6 (Below.drew hB.out))
      clear hown6 far
      go_wp2
      have z : Blk _ (w.heap.size + 1) 63 #[.int .i64 st, .int .i64 next, .slice a6 (m).length c6] := ((z1.setAt 0 (.int .i64 st)).setAt 1 (.int .i64 next)).setAt 2 (.slice a6 (m).length c6)
      obtain ⟨e0, e1, e2⟩ := z.row
      exact bodyPost_ret (v := .agg #[.int .i64 st, .int .i64 next, .slice a6 (m).length c6]) (by simp [results, Try.results49, go_sem, e0, e1, e2]) rfl
        ⟨_, by rw [E9.out], by rw [E9.out]; exact owns_mono (owns_set (owns_set (owns_set Hown6.out Far.out) Far.out) Far.out) (Nat.le_of_lt q0), bl_set (bl_set (bl_set B6.out (by omega) _) (by omega) _) (by omega) _⟩
end Go.Proofs.Ytnmbbkagjpmhdaa.Items
