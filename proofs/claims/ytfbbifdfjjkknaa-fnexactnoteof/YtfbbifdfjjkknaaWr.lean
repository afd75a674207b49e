/-
  The program's writer: what it writes of a number and of a text, and where it panics. Condition: at most 600000000 bytes.
-/
import Derived.Test.YtfbbifdfjjkknaaSPutNum
import Derived.Lib.AppendStr
import Derived.WalkSmall
namespace Go.Proofs.Ytfbbifdfjjkknaa.Gen
open Go.ChangeShapes Go.WideShapes Go.ChangeAt Go.RowKit Go.Joins Go.Deep Base
set_option linter.unusedVariables false

/-- What is kept stays as it was. -/
structure Turn (P : Nat → Prop) (w w' : World) : Prop where
  os : w'.os = w.os
  tape : w'.tape = w.tape
  output : w'.output = w.output
  size : w.heap.size ≤ w'.heap.size
  block : ∀ k, P k → w'.heap[k]? = w.heap[k]?
theorem Turn.refl (P : Nat → Prop) (w : World) : Turn P w w := ⟨rfl, rfl, rfl, Nat.le_refl _, fun _ _ => rfl⟩
theorem Turn.trans {P : Nat → Prop} {w w1 w2 : World} (h : Turn P w w1) (k : Turn P w1 w2) : Turn P w w2 :=
  ⟨k.os.trans h.os, k.tape.trans h.tape, k.output.trans h.output, Nat.le_trans h.size k.size, fun i hi => (k.block i hi).trans (h.block i hi)⟩
theorem Turn.of_below {P : Nat → Prop} {w w1 : World} (h : Below w.heap.size w w1) (hP : ∀ k, P k → k < w.heap.size) : Turn P w w1 := ⟨h.os, h.tape, h.output, h.size, fun i hi => h.block i (hP i hi)⟩
theorem Turn.set {P : Nat → Prop} {w w1 : World} (h : Turn P w w1) {b : Nat} (hb : ¬ P b) (o : Nat) (v : Value) : Turn P w (w1.setCell ⟨b, o, none⟩ v) :=
  ⟨h.os, h.tape, h.output, by simpa using h.size, fun i hi => (Below.heap_setCell w1 ⟨b, o, none⟩ v i (fun e => hb (show P b from (show i = b from e) ▸ hi))).trans (h.block i hi)⟩
theorem Turn.below {P : Nat → Prop} {w w1 : World} (h : Turn P w w1) {n : Nat} (hn : ∀ k, k < n → P k) : Below n w w1 := ⟨h.os, h.tape, h.output, h.size, fun i hi => h.block i (hn i hi)⟩
theorem Turn.mono {P Q : Nat → Prop} {w w1 : World} (h : Turn P w w1) (hn : ∀ k, Q k → P k) : Turn Q w w1 := ⟨h.os, h.tape, h.output, h.size, fun i hi => h.block i (hn i hi)⟩
theorem Blk.turn {P : Nat → Prop} {W W' : World} {k : Nat} {t : TypeId} {vs : Array Value} (h : Blk W k t vs) (g : Turn P W W') (hk : P k) : Blk W' k t vs := (g.block k hk).trans h
theorem In.turn {α : Type} [Cel α] {P : Nat → Prop} {W W' : World} {b o : Nat} {l : List α} (h : In W b o l) (g : Turn P W W') (hb : P b) : In W' b o l :=
  fun j v hv => (World.cell?_of_block (a := ⟨b, o + j, none⟩) (g.block b hb)).trans (h j v hv)
theorem At.turn {α : Type} [Cel α] {P : Nat → Prop} {W W' : World} {A : Option Addr} {l : List α} (h : At W A l) (g : Turn P W W') (hP : ∀ b o, A = some ⟨b, o, none⟩ → P b) : At W' A l :=
  h.imp id fun ⟨b, o, e, hb, hi⟩ => ⟨b, o, e, Nat.lt_of_lt_of_le hb g.size, hi.turn g (hP b o e)⟩

/-- The writer at block b has written xs; what is kept is neither it nor where it writes. -/
def Wr (P : Nat → Prop) (b : Nat) (W : World) (xs : List UInt8) : Prop :=
  ∃ a c, Blk W b 87 #[.slice a xs.length c] ∧ W.ownsRow 0 5 1 (.slice a xs.length c) xs.length (flat xs) ∧ (∀ g, (Value.slice a xs.length c).ownBlock = some g → ¬ P g ∧ g ≠ b) ∧ ¬ P b ∧ ∀ k, P k → k < W.heap.size

theorem Wr.below {P : Nat → Prop} {b : Nat} {W W' : World} {xs : List UInt8} (h : Wr P b W xs) (g : Below W.heap.size W W') : Wr P b W' xs := by
  obtain ⟨a, c, h1, h2, h3, h4, h5⟩ := h
  exact ⟨a, c, h1.below g h1.lt, owns_below h2 g, h3, h4, fun k hk => Nat.lt_of_lt_of_le (h5 k hk) g.size⟩
/-- A new block is kept too. -/
theorem Wr.keep {P : Nat → Prop} {b : Nat} {W : World} {xs : List UInt8} (h : Wr P b W xs) (o : Obj) : Wr (fun k => P k ∨ k = W.heap.size) b (W.alloc o) xs := by
  obtain ⟨a, c, h1, h2, h3, h4, h5⟩ := h
  have hb := h1.lt
  refine ⟨a, c, h1.alloc o, owns_alloc h2 o, fun g hg => ⟨?_, (h3 g hg).2⟩, ?_, ?_⟩
  · rintro (h | h)
    · exact (h3 g hg).1 h
    · have := owns_lt h2 hg; omega
  · rintro (h | h)
    · exact h4 h
    · omega
  · rintro k (h | h)
    · have := h5 k h; simp; omega
    · simp; omega
theorem Wr.mono {P Q : Nat → Prop} {b : Nat} {W : World} {xs : List UInt8} (h : Wr P b W xs) (hn : ∀ k, Q k → P k) : Wr Q b W xs := by
  obtain ⟨a, c, h1, h2, h3, h4, h5⟩ := h
  exact ⟨a, c, h1, h2, fun g hg => ⟨fun q => (h3 g hg).1 (hn g q), (h3 g hg).2⟩, fun q => h4 (hn b q), fun k hk => h5 k (hn k hk)⟩

theorem grown_turn {P : Nat → Prop} {W W' : World} {a : Option Addr} {n c : Nat} (g : W.grownBy W' (Value.slice a n c).ownBlock) (h3 : ∀ g, (Value.slice a n c).ownBlock = some g → ¬ P g) (h5 : ∀ k, P k → k < W.heap.size) : Turn P W W' := by
  refine ⟨g.os, g.tape, g.output, g.size, fun k hk => g.block k (h5 k hk) (fun e => h3 k e.symm hk)⟩

/-- One byte more. -/
theorem write_b {P : Nat → Prop} {b : Nat} {a : Option Addr} {c : Nat} {xs : List UInt8} {x : UInt8} {z : Int} (hz : (x.toNat : Int) = z) {W : World} (hb : Blk W b 87 #[.slice a xs.length c]) (hv : W.ownsRow 0 5 1 (.slice a xs.length c) xs.length (flat xs))
    (h3 : ∀ g, (Value.slice a xs.length c).ownBlock = some g → ¬ P g ∧ g ≠ b) (h4 : ¬ P b) (h5 : ∀ k, P k → k < W.heap.size) (hlen : xs.length ≤ 600000000) :
    ∃ a' c' W', (Builtin.append_ #[33, 33] 33 #[.slice a xs.length c, .slice (some ⟨W.heap.size, 0, none⟩) 1 1]).run Try.prog (W.alloc (.cells #[.int .u8 z] 5)) = .ok (.slice a' (xs.length + 1) c') W' ∧
      Blk W' b 87 #[.slice a xs.length c] ∧ Wr P b (W'.setCell ⟨b, 0, none⟩ (.slice a' (xs.length + 1) c')) (xs ++ [x]) ∧ Turn P W (W'.setCell ⟨b, 0, none⟩ (.slice a' (xs.length + 1) c')) := by
  obtain ⟨a', c', W', hr, hO, hg, hat⟩ := append_b 0 a c xs x z hz W (Nat.zero_le _) hv hlen
  have hlt := hb.lt
  have t0 : Turn (fun k => P k ∨ k = b) (W.alloc (.cells #[.int .u8 z] 5)) W' := grown_turn hg (fun g hg q => q.elim (h3 g hg).1 (h3 g hg).2) (fun k h => h.elim (fun h => by have := h5 k h; simp; omega) (fun h => by simp; omega))
  have t1 : Turn (fun k => P k ∨ k = b) W W' := (Turn.of_below (alloc0 (Below.refl _ W) _) (fun k h => h.elim (h5 k) (fun h => by omega))).trans t0
  have hb' := hb.turn t1 (.inr rfl)
  have hl : (xs ++ [x]).length = xs.length + 1 := by simp
  have hown : ∀ g, (Value.slice a' (xs.length + 1) c').ownBlock = some g → ¬ P g ∧ g ≠ b := by
    intro g hg
    rcases hat with e | e
    · rw [e] at hg; exact h3 g hg
    · rw [e] at hg
      simp only [Option.some.injEq] at hg
      exact ⟨fun q => by have := h5 g q; omega, by omega⟩
  refine ⟨a', c', W', hr, hb', ⟨a', c', ?_, owns_set hO (by rw [hl]; intro e; exact (hown b e.symm).2 rfl), by rw [hl]; exact hown, h4, fun k hk => by have := h5 k hk; have := t1.size; simp; omega⟩, (t1.mono (fun k hk => .inl hk)).set h4 0 _⟩
  have := hb'.setAt 0 (.slice a' (xs.length + 1) c')
  rw [hl]
  exact this

set_option maxRecDepth 100000 in
set_option maxHeartbeats 1000000 in
theorem number_any (P : Nat → Prop) (b n : Nat) (hn : n ≤ 2147483647) (xs : List UInt8) (hx : xs.length ≤ 599999000) (w : World) (hW : Wr P b w xs) :
    Calls Try.prog 77 #[.pointer (some ⟨b, 0, none⟩), .int .i64 (n : Int)] w fun e w' => e = .returned (.tuple #[]) ∧ Turn P w w' ∧ Wr P b w' (xs ++ numB n) := by
  have hin : inB (n : Int) 0 2147483647 = true := by simp [inB]; omega
  have hl0 := hidP (numB_le (n := n) (by omega))
  have HW := hidP hW
  clear hW
  go_enter Try.func77, Try.ntmps77
  go_wp2_with fail
  refine (within_any _ _ _ _).mono ?_
  rintro e w ⟨rfl, rfl⟩
  rw [hin]
  go_wp2
  go_loopw [1] (fun x W => ∃ (m : Nat) (ys : List UInt8), x = .int .i64 (m : Int) ∧ m ≤ 2147483647 ∧ Hid (ys ++ numB m = xs ++ numB n) ∧ Hid (Wr P b W ys) ∧ Hid (Turn P w W)) (fun x _ => (intOf x).toNat)
  case atStart => exact ⟨n, xs, rfl, hn, rfl, HW, Turn.refl _ _⟩
  case round =>
    obtain ⟨m, ys, rfl, hm, hy, hO, hT⟩ := hrel
    have hyl : ys.length ≤ 599999999 := by have h1 := congrArg List.length hy.out; have h2 := hl0.out; rw [List.length_append, List.length_append] at h1; omega
    obtain ⟨a, c, p, hv, h3, h4, h5⟩ := hO.out
    have c0 := p.row1
    have q0 := p.lt
    by_cases hlt : m < 128
    · obtain ⟨a', c', W', hr, p', hW', hT'⟩ := write_b (x := UInt8.ofNat m) (z := (m : Int)) (by rw [UInt8.toNat_ofNat']; omega) p hv h3 h4 h5 (by omega)
      have HW' := hidP hW'
      have HT' := hidP (hT.out.trans hT')
      have d0 := p'.row1
      have f0 := p'.thaw 0
      have he : Hid (ys ++ [UInt8.ofNat m] = xs ++ numB n) := by show _ = _; rw [← hy.out, numB_small hlt]
      clear hW' hT' hv p p' h3 h4 h5
      go_wp2_with (at_builtin; refine wpList_append_is rfl _ _ _ rfl _ _ _ rfl rfl hr ?_)
      go_end0
      refine ⟨rfl, HT'.out, ?_⟩
      have := HW'.out
      rwa [he.out] at this
    · have e8 : ((UInt8.ofNat (m % 128 + 128)).toNat : Int) = (m : Int) % 128 + 128 := by rw [UInt8.toNat_ofNat']; omega
      obtain ⟨a', c', W', hr, p', hW', hT'⟩ := write_b (x := UInt8.ofNat (m % 128 + 128)) e8 p hv h3 h4 h5 (by omega)
      have HW' := hidP hW'
      have HT' := hidP (hT.out.trans hT')
      have d0 := p'.row1
      have f0 := p'.thaw 0
      have he : Hid (ys ++ [UInt8.ofNat (m % 128 + 128)] ++ numB (m / 128) = xs ++ numB n) := by show _ = _; rw [← hy.out, numB_big hlt]; simp
      clear hW' hT' hv p p' e8 h3 h4 h5
      go_wp2_with (at_builtin; refine wpList_append_is rfl _ _ _ rfl _ _ _ rfl rfl hr ?_)
      refine ⟨⟨m / 128, ys ++ [UInt8.ofNat (m % 128 + 128)], ?_, by omega, he, HW', HT'⟩, ?_⟩
      · show Value.int .i64 _ = Value.int .i64 _
        congr 1
      · simp [intOf]; omega

theorem number_bad (b : Nat) (n : Int) (hn : ¬ (0 ≤ n ∧ n ≤ 2147483647)) (w : World) :
    Calls Try.prog 77 #[.pointer (some ⟨b, 0, none⟩), .int .i64 n] w fun e w' => e = .panicked [{ v := .iface 9 (.string ⟨#[110, 111, 32, 110, 117, 109, 98, 101, 114]⟩), recovered := false }] ∧ w' = w := by
  have hin : inB n 0 2147483647 = false := by simp [inB]; omega
  clear hn
  go_enter Try.func77, Try.ntmps77
  go_wp2_with fail
  refine (within_any _ _ _ _).mono ?_
  rintro e w ⟨rfl, rfl⟩
  rw [hin]
  go_wp2
  exact ⟨rfl, rfl, rfl⟩

theorem wpList_appS_is {P : Program} {w w' : World} {ops : Array Oper} {rest : List Oper} {o : Oper} {a : Act} {Q : Exit → Act → World → Prop} (hgd : o.guard = none) (s x : Operand) (t u : TypeId)
    (ho : o.op = .call { callee := .builtin .append, args := #[s, x], argTypes := #[t, u] }) (v xv r : Value) (hs : a.eval s = v) (hx : a.eval x = xv)
    (hr : (Builtin.append_ #[t, u] o.type #[v, xv]).run P w = .ok r w') (h : wpList P ops Q rest (a.put o.dst r) w') : wpList P ops Q (o :: rest) a w := by
  refine wpList_plain hgd fun _ hK => ?_
  unfold Oper.wp execOp
  simp only [ho, resolve, invoke, builtin, Sem.run_bind, Sem.run_pure, Result.andThen_ok, List.map_toArray, List.map_cons, List.map_nil, hs, hx, hr]
  exact hK _ _ h

theorem flat_map1 (l : List UInt8) : flat l = l.map fun b => Value.int .u8 (b.toNat : Int) := by
  induction l with
  | nil => rfl
  | cons x l ih => rw [flat_cons, ih]; rfl
theorem flat_str (s : ByteArray) : flat s.data.toList = Go.Lib.strCells s := flat_map1 _

/-- A text's bytes appended to an own list. -/
theorem append_s {B : Nat} {a : Option Addr} {c : Nat} {xs : List UInt8} (s : ByteArray) {W : World} (hB : B ≤ W.heap.size) (hv : W.ownsRow B 5 1 (.slice a xs.length c) xs.length (flat xs)) (hlen : xs.length + s.size ≤ 600000000) :
    ∃ a' c' W', (Builtin.append_ #[33, 9] 33 #[.slice a xs.length c, .string s]).run Try.prog W = .ok (.slice a' (xs.length + s.size) c') W' ∧
      W'.ownsRow B 5 1 (.slice a' (xs ++ s.data.toList).length c') (xs ++ s.data.toList).length (flat (xs ++ s.data.toList)) ∧ W.grownBy W' (Value.slice a xs.length c).ownBlock ∧ ((Value.slice a' (xs.length + s.size) c').ownBlock = (Value.slice a xs.length c).ownBlock ∨ (Value.slice a' (xs.length + s.size) c').ownBlock = some W.heap.size) := by
  obtain ⟨i0, hi, hz0, hz1, hz2⟩ := info_parts infoB
  obtain ⟨v', W', hr, hO, hg, hnil⟩ := Go.Lib.run_append_own_string (P := Try.prog) W B 33 9 33 5 i0 Try.underlying33 Try.underlying9 hi hz0 hz1 hz2 (.slice a xs.length c) xs.length (flat xs) hv s (by simp [maxLen]; omega) (by omega) hB
  have hob : v'.ownBlock = (Value.slice a xs.length c).ownBlock ∨ v'.ownBlock = some W.heap.size := by
    rcases hv.2 with ⟨e, h0⟩ | ⟨g, cap, cur, e, hbg, hgb, hnc, hcm, hcs, htake⟩
    · by_cases hm : s.size = 0
      · left; rw [hnil.2 ⟨e, hm⟩, e]
      · rw [e] at hr
        have hr2 := run_append_nil_string (P := Try.prog) W 33 9 33 5 i0 (.int .u8 0) Try.underlying33 Try.underlying9 hi hz0 s (by omega) (by omega) (by rw [hz2]; omega)
        rw [hr] at hr2
        simp only [Result.ok.injEq] at hr2
        right; rw [hr2.1]; rfl
    · simp only [Value.slice.injEq] at e
      obtain ⟨rfl, _, rfl⟩ := e
      by_cases hroom : xs.length + s.size ≤ c
      · have hr2 := Go.Lib.run_append_room_string (P := Try.prog) W 33 9 33 5 i0 Try.underlying33 Try.underlying9 hi hz1 g xs.length c cur hgb s hroom (by omega)
        rw [hr] at hr2
        simp only [Result.ok.injEq] at hr2
        left; rw [hr2.1]; rfl
      · have hr2 := Go.Lib.run_append_grow_string (P := Try.prog) W 33 9 33 5 i0 (.int .u8 0) Try.underlying33 Try.underlying9 hi hz0 ⟨g, 0, none⟩ xs.length c (flat xs) (by rw [hz1]; exact hv.1) (hv.cells (g := g) rfl) s (by omega) (by omega) (by rw [hz2]; exact growslice_fits (by omega) (by omega))
        rw [hr] at hr2
        simp only [Result.ok.injEq] at hr2
        right; rw [hr2.1]; rfl
  obtain ⟨a', c', rfl, _⟩ := owns_form hO
  refine ⟨a', c', W', hr, ?_, hg, hob⟩
  have e1 : (xs ++ s.data.toList).length = xs.length + s.size := by rw [List.length_append, Array.length_toList]; rfl
  have e2 : flat (xs ++ s.data.toList) = flat xs ++ Go.Lib.strCells s := by rw [flat_append, flat_str]
  rw [e1, e2]
  exact hO

/-- A text's bytes more. -/
theorem write_s {P : Nat → Prop} {b : Nat} {a : Option Addr} {c : Nat} {xs : List UInt8} (s : ByteArray) {W : World} (hb : Blk W b 87 #[.slice a xs.length c]) (hv : W.ownsRow 0 5 1 (.slice a xs.length c) xs.length (flat xs))
    (h3 : ∀ g, (Value.slice a xs.length c).ownBlock = some g → ¬ P g ∧ g ≠ b) (h4 : ¬ P b) (h5 : ∀ k, P k → k < W.heap.size) (hlen : xs.length + s.size ≤ 600000000) :
    ∃ a' c' W', (Builtin.append_ #[33, 9] 33 #[.slice a xs.length c, .string s]).run Try.prog W = .ok (.slice a' (xs.length + s.size) c') W' ∧
      Blk W' b 87 #[.slice a xs.length c] ∧ Wr P b (W'.setCell ⟨b, 0, none⟩ (.slice a' (xs.length + s.size) c')) (xs ++ s.data.toList) ∧ Turn P W (W'.setCell ⟨b, 0, none⟩ (.slice a' (xs.length + s.size) c')) := by
  obtain ⟨a', c', W', hr, hO, hg, hat⟩ := append_s s (Nat.zero_le _) hv hlen
  have hlt := hb.lt
  have t1 : Turn (fun k => P k ∨ k = b) W W' := grown_turn hg (fun g hg q => q.elim (h3 g hg).1 (h3 g hg).2) (fun k h => h.elim (h5 k) (fun h => by omega))
  have hb' := hb.turn t1 (.inr rfl)
  have hl : (xs ++ s.data.toList).length = xs.length + s.size := by rw [List.length_append, Array.length_toList]; rfl
  have hown : ∀ g, (Value.slice a' (xs.length + s.size) c').ownBlock = some g → ¬ P g ∧ g ≠ b := by
    intro g hg
    rcases hat with e | e
    · rw [e] at hg; exact h3 g hg
    · rw [e] at hg
      simp only [Option.some.injEq] at hg
      exact ⟨fun q => by have := h5 g q; omega, by omega⟩
  refine ⟨a', c', W', hr, hb', ⟨a', c', ?_, owns_set hO (by rw [hl]; intro e; exact (hown b e.symm).2 rfl), by rw [hl]; exact hown, h4, fun k hk => by have := h5 k hk; have := t1.size; simp; omega⟩, (t1.mono (fun k hk => .inl hk)).set h4 0 _⟩
  have := hb'.setAt 0 (.slice a' (xs.length + s.size) c')
  rw [hl]
  exact this

set_option maxRecDepth 100000 in
set_option maxHeartbeats 1000000 in
theorem wtext_any (P : Nat → Prop) (b : Nat) (s : ByteArray) (xs : List UInt8) (hx : xs.length + s.size ≤ 599998000) (w : World) (hW : Wr P b w xs) :
    Calls Try.prog 59 #[.pointer (some ⟨b, 0, none⟩), .string s] w fun e w' => e = .returned (.tuple #[]) ∧ Turn P w w' ∧ Wr P b w' (xs ++ (numB s.size ++ s.data.toList)) := by
  have hl0 := hidP (numB_le (n := s.size) (by omega))
  have HW := hidP hW
  clear hW
  go_enter Try.func59, Try.ntmps59
  go_wp2_with fail
  refine (number_any P b s.size (by omega) xs (by omega) _ HW.out).mono ?_
  rintro e w1 ⟨rfl, t1, hW1⟩
  obtain ⟨a, c, p, hv, h3, h4, h5⟩ := hW1
  have c0 := p.row1
  have q0 := p.lt
  have hl1 : (xs ++ numB s.size).length + s.size ≤ 600000000 := by have := hl0.out; rw [List.length_append]; omega
  generalize hys : xs ++ numB s.size = ys at *
  obtain ⟨a', c', W', hr, p', hW', hT'⟩ := write_s s p hv h3 h4 h5 hl1
  have d0 := p'.row1
  have f0 := p'.thaw 0
  have HW' := hidP hW'
  have HT := hidP (t1.trans hT')
  have Hys := hidP hys
  clear hW' hT' hv p p' t1 HW hys h3 h4 h5
  go_wp2_with (at_builtin; refine wpList_appS_is rfl _ _ _ _ rfl _ _ _ rfl rfl hr ?_)
  go_end0
  refine ⟨rfl, HT.out, ?_⟩
  rw [← List.append_assoc, Hys.out]
  exact HW'.out

end Go.Proofs.Ytfbbifdfjjkknaa.Gen
