/-
  The program's writer: what it writes of a number and of a text, and where it panics. Condition: at most 600000000 bytes.
-/
import Derived.Test.YtaefjifcnoiplaaGreatAnsList
import Derived.Lib.AppendStr
import Derived.WalkSmall
import Derived.Defers
import Derived.Recover
import Derived.Laws.Pointers
import Derived.Test.YtaefjifcnoiplaaGreatGen
import Derived.Lib.ConvBytes
namespace Go.Proofs.YtaefjifcnoiplaaGreat.Gen
open Go.ChangeShapes Go.WideShapes Go.ChangeAt Go.RowKit Go.Joins Go.Deep Base
set_option linter.unusedVariables false
structure Turn (P : Nat -> Prop) (w w' : World) : Prop where
  os : w'.os = w.os
  tape : w'.tape = w.tape
  output : w'.output = w.output
  size : w.heap.size <= w'.heap.size
  block : ∀ k, P k -> w'.heap[k]? = w.heap[k]?
theorem Turn.refl (P : Nat -> Prop) (w : World) : Turn P w w := ⟨rfl, rfl, rfl, Nat.le_refl _, fun _ _ => rfl⟩
theorem Turn.trans {P : Nat -> Prop} {w w1 w2 : World} (h : Turn P w w1) (k : Turn P w1 w2) : Turn P w w2 :=
  ⟨k.os.trans h.os, k.tape.trans h.tape, k.output.trans h.output, Nat.le_trans h.size k.size, fun i hi => (k.block i hi).trans (h.block i hi)⟩
theorem Turn.of_below {P : Nat -> Prop} {w w1 : World} (h : Below w.heap.size w w1) (hP : ∀ k, P k -> k < w.heap.size) : Turn P w w1 := ⟨h.os, h.tape, h.output, h.size, fun i hi => h.block i (hP i hi)⟩
theorem Turn.set {P : Nat -> Prop} {w w1 : World} (h : Turn P w w1) {b : Nat} (hb : ¬ P b) (o : Nat) (v : Value) : Turn P w (w1.setCell ⟨b, o, none⟩ v) :=
  ⟨h.os, h.tape, h.output, by simpa using h.size, fun i hi => (Below.heap_setCell w1 ⟨b, o, none⟩ v i (fun e => hb (show P b from (show i = b from e) ▸ hi))).trans (h.block i hi)⟩
theorem Turn.below {P : Nat -> Prop} {w w1 : World} (h : Turn P w w1) {n : Nat} (hn : ∀ k, k < n -> P k) : Below n w w1 := ⟨h.os, h.tape, h.output, h.size, fun i hi => h.block i (hn i hi)⟩
theorem Turn.mono {P Q : Nat -> Prop} {w w1 : World} (h : Turn P w w1) (hn : ∀ k, Q k -> P k) : Turn Q w w1 := ⟨h.os, h.tape, h.output, h.size, fun i hi => h.block i (hn i hi)⟩
theorem Blk.turn {P : Nat -> Prop} {W W' : World} {k : Nat} {t : TypeId} {vs : Array Value} (h : Blk W k t vs) (g : Turn P W W') (hk : P k) : Blk W' k t vs := (g.block k hk).trans h
theorem In.turn {α : Type} [Cel α] {P : Nat -> Prop} {W W' : World} {b o : Nat} {l : List α} (h : In W b o l) (g : Turn P W W') (hb : P b) : In W' b o l :=
  fun j v hv => (World.cell?_of_block (a := ⟨b, o + j, none⟩) (g.block b hb)).trans (h j v hv)
theorem At.turn {α : Type} [Cel α] {P : Nat -> Prop} {W W' : World} {A : Option Addr} {l : List α} (h : At W A l) (g : Turn P W W') (hP : ∀ b o, A = some ⟨b, o, none⟩ -> P b) : At W' A l :=
  h.imp id fun ⟨b, o, e, hb, hi⟩ => ⟨b, o, e, Nat.lt_of_lt_of_le hb g.size, hi.turn g (hP b o e)⟩
def Wr (P : Nat -> Prop) (b : Nat) (W : World) (xs : List UInt8) : Prop :=
  ∃ a c, Blk W b 179 #[.slice a xs.length c] /\ W.ownsRow 0 5 1 (.slice a xs.length c) xs.length (flat xs) /\ (∀ g, (Value.slice a xs.length c).ownBlock = some g -> ¬ P g /\ g ≠ b) /\ ¬ P b /\ ∀ k, P k -> k < W.heap.size
theorem Wr.below {P : Nat -> Prop} {b : Nat} {W W' : World} {xs : List UInt8} (h : Wr P b W xs) (g : Below W.heap.size W W') : Wr P b W' xs := by
  obtain ⟨a, c, h1, h2, h3, h4, h5⟩ := h
  exact ⟨a, c, h1.below g h1.lt, owns_below h2 g, h3, h4, fun k hk => Nat.lt_of_lt_of_le (h5 k hk) g.size⟩
theorem Wr.keep {P : Nat -> Prop} {b : Nat} {W : World} {xs : List UInt8} (h : Wr P b W xs) (o : Obj) : Wr (fun k => P k ∨ k = W.heap.size) b (W.alloc o) xs := by
  obtain ⟨a, c, h1, h2, h3, h4, h5⟩ := h
  have hb := h1.lt
  refine ⟨a, c, h1.alloc o, owns_alloc h2 o, fun g hg => ⟨?_, (h3 g hg).2⟩, ?_, ?_⟩
  . rintro (h | h)
    . exact (h3 g hg).1 h
    . have := owns_lt h2 hg; omega
  . rintro (h | h)
    . exact h4 h
    . omega
  . rintro k (h | h)
    . have := h5 k h; simp; omega
    . simp; omega
theorem Wr.mono {P Q : Nat -> Prop} {b : Nat} {W : World} {xs : List UInt8} (h : Wr P b W xs) (hn : ∀ k, Q k -> P k) : Wr Q b W xs := by
  obtain ⟨a, c, h1, h2, h3, h4, h5⟩ := h
  exact ⟨a, c, h1, h2, fun g hg => ⟨fun q => (h3 g hg).1 (hn g q), (h3 g hg).2⟩, fun q => h4 (hn b q), fun k hk => h5 k (hn k hk)⟩
theorem grown_turn {P : Nat -> Prop} {W W' : World} {a : Option Addr} {n c : Nat} (g : W.grownBy W' (Value.slice a n c).ownBlock) (h3 : ∀ g, (Value.slice a n c).ownBlock = some g -> ¬ P g) (h5 : ∀ k, P k -> k < W.heap.size) : Turn P W W' := by
  refine ⟨g.os, g.tape, g.output, g.size, fun k hk => g.block k (h5 k hk) (fun e => h3 k e.symm hk)⟩
theorem write_b {P : Nat -> Prop} {b : Nat} {a : Option Addr} {c : Nat} {xs : List UInt8} {x : UInt8} {z : Int} (hz : (x.toNat : Int) = z) {W : World} (hb : Blk W b 179 #[.slice a xs.length c]) (hv : W.ownsRow 0 5 1 (.slice a xs.length c) xs.length (flat xs))
    (h3 : ∀ g, (Value.slice a xs.length c).ownBlock = some g -> ¬ P g /\ g ≠ b) (h4 : ¬ P b) (h5 : ∀ k, P k -> k < W.heap.size) (hlen : xs.length <= 600000000) :
    ∃ a' c' W', (Builtin.append_ #[37, 37] 37 #[.slice a xs.length c, .slice (some ⟨W.heap.size, 0, none⟩) 1 1]).run Tryz.prog (W.alloc (.cells #[.int .u8 z] 5)) = .ok (.slice a' (xs.length + 1) c') W' /\
      Blk W' b 179 #[.slice a xs.length c] /\ Wr P b (W'.setCell ⟨b, 0, none⟩ (.slice a' (xs.length + 1) c')) (xs ++ [x]) /\ Turn P W (W'.setCell ⟨b, 0, none⟩ (.slice a' (xs.length + 1) c')) := by
  obtain ⟨a', c', W', hr, hO, hg, hat⟩ := append_b 0 a c xs x z hz W (Nat.zero_le _) hv hlen
  have hlt := hb.lt
  have t0 : Turn (fun k => P k ∨ k = b) (W.alloc (.cells #[.int .u8 z] 5)) W' := grown_turn hg (fun g hg q => q.elim (h3 g hg).1 (h3 g hg).2) (fun k h => h.elim (fun h => by have := h5 k h; simp; omega) (fun h => by simp; omega))
  have t1 : Turn (fun k => P k ∨ k = b) W W' := (Turn.of_below (alloc0 (Below.refl _ W) _) (fun k h => h.elim (h5 k) (fun h => by omega))).trans t0
  have hb' := hb.turn t1 (.inr rfl)
  have hl : (xs ++ [x]).length = xs.length + 1 := by simp
  have hown : ∀ g, (Value.slice a' (xs.length + 1) c').ownBlock = some g -> ¬ P g /\ g ≠ b := by
    intro g hg
    rcases hat with e | e
    . rw [e] at hg; exact h3 g hg
    . rw [e] at hg
      simp only [Option.some.injEq] at hg
      exact ⟨fun q => by have := h5 g q; omega, by omega⟩
  refine ⟨a', c', W', hr, hb', ⟨a', c', ?_, owns_set hO (by rw [hl]; intro e; exact (hown b e.symm).2 rfl), by rw [hl]; exact hown, h4, fun k hk => by have := h5 k hk; have := t1.size; simp; omega⟩, (t1.mono (fun k hk => .inl hk)).set h4 0 _⟩
  have := hb'.setAt 0 (.slice a' (xs.length + 1) c')
  rw [hl]
  exact this
set_option maxRecDepth 100000 in
set_option maxHeartbeats 1000000 in
theorem number_any (P : Nat -> Prop) (b n : Nat) (hn : n <= 2147483647) (xs : List UInt8) (hx : xs.length <= 599999000) (w : World) (hW : Wr P b w xs) :
    Calls Tryz.prog 159 #[.pointer (some ⟨b, 0, none⟩), .int .i64 (n : Int)] w fun e w' => e = .returned (.tuple #[]) /\ Turn P w w' /\ Wr P b w' (xs ++ numB n) := by
  have hin : inB (n : Int) 0 2147483647 = true := by simp [inB]; omega
  have hl0 := hidP (numB_le (n := n) (by omega))
  have HW := hidP hW
  clear hW
  go_enter Tryz.func159, Tryz.ntmps159
  go_wp2_with fail
  refine (within_any _ _ _ _).mono ?_
  rintro e w ⟨rfl, rfl⟩
  rw [hin]
  go_wp2
  go_loopw [1] (fun x W => ∃ (m : Nat) (ys : List UInt8), x = .int .i64 (m : Int) /\ m <= 2147483647 /\ Hid (ys ++ numB m = xs ++ numB n) /\ Hid (Wr P b W ys) /\ Hid (Turn P w W)) (fun x _ => (intOf x).toNat)
  case atStart => exact ⟨n, xs, rfl, hn, rfl, HW, Turn.refl _ _⟩
  case round =>
    obtain ⟨m, ys, rfl, hm, hy, hO, hT⟩ := hrel
    have hyl : ys.length <= 599999999 := by have h1 := congrArg List.length hy.out; have h2 := hl0.out; rw [List.length_append, List.length_append] at h1; omega
    obtain ⟨a, c, p, hv, h3, h4, h5⟩ := hO.out
    have c0 := p.row1
    have q0 := p.lt
    by_cases hlt : m < 128
    . obtain ⟨a', c', W', hr, p', hW', hT'⟩ := write_b (x := UInt8.ofNat m) (z := (m : Int)) (by rw [UInt8.toNat_ofNat']; omega) p hv h3 h4 h5 (by omega)
      have HW' := hidP hW'
      have HT' := hidP (hT.out.trans hT')
      have d0 := p'.row1
      have f0 := p'.thaw 0
      have he : Hid (ys ++ [UInt8.ofNat m] = xs ++ numB n) := by show _ = _; rw [← hy.out, numB_small hlt]
      clear hW' hT' hv p p' h3 h4 h5
      go_wp2_with (at_builtin; refine wpList_append_is rfl _ _ _ rfl _ _ _ rfl rfl hr ?_)
      go_end0
      refine ⟨rfl, HT'.out, ?_⟩
      have := HW'.out
      rwa [he.out] at this
    . have e8 : ((UInt8.ofNat (m % 128 + 128)).toNat : Int) = (m : Int) % 128 + 128 := by rw [UInt8.toNat_ofNat']; omega
      obtain ⟨a', c', W', hr, p', hW', hT'⟩ := write_b (x := UInt8.ofNat (m % 128 + 128)) e8 p hv h3 h4 h5 (by omega)
      have HW' := hidP hW'
      have HT' := hidP (hT.out.trans hT')
      have d0 := p'.row1
      have f0 := p'.thaw 0
      have he : Hid (ys ++ [UInt8.ofNat (m % 128 + 128)] ++ numB (m / 128) = xs ++ numB n) := by show _ = _; rw [← hy.out, numB_big hlt]; simp
      clear hW' hT' hv p p' e8 h3 h4 h5
      go_wp2_with (at_builtin; refine wpList_append_is rfl _ _ _ rfl _ _ _ rfl rfl hr ?_)
      refine ⟨⟨m / 128, ys ++ [UInt8.ofNat (m % 128 + 128)], ?_, by omega, he, HW', HT'⟩, ?_⟩
      . show Value.int .i64 _ = Value.int .i64 _
        congr 1
      . simp [intOf]; omega
theorem wpList_appS_is {P : Program} {w w' : World} {ops : Array Oper} {rest : List Oper} {o : Oper} {a : Act} {Q : Exit -> Act -> World -> Prop} (hgd : o.guard = none) (s x : Operand) (t u : TypeId)
    (ho : o.op = .call { callee := .builtin .append, args := #[s, x], argTypes := #[t, u] }) (v xv r : Value) (hs : a.eval s = v) (hx : a.eval x = xv)
    (hr : (Builtin.append_ #[t, u] o.type #[v, xv]).run P w = .ok r w') (h : wpList P ops Q rest (a.put o.dst r) w') : wpList P ops Q (o :: rest) a w := by
  refine wpList_plain hgd fun _ hK => ?_
  unfold Oper.wp execOp
  simp only [ho, resolve, invoke, builtin, Sem.run_bind, Sem.run_pure, Result.andThen_ok, List.map_toArray, List.map_cons, List.map_nil, hs, hx, hr]
  exact hK _ _ h
theorem flat_str (s : ByteArray) : flat s.data.toList = Go.Lib.strCells s := flat_map1 _
theorem append_s {B : Nat} {a : Option Addr} {c : Nat} {xs : List UInt8} (s : ByteArray) {W : World} (hB : B <= W.heap.size) (hv : W.ownsRow B 5 1 (.slice a xs.length c) xs.length (flat xs)) (hlen : xs.length + s.size <= 600000000) :
    ∃ a' c' W', (Builtin.append_ #[37, 9] 37 #[.slice a xs.length c, .string s]).run Tryz.prog W = .ok (.slice a' (xs.length + s.size) c') W' /\
      W'.ownsRow B 5 1 (.slice a' (xs ++ s.data.toList).length c') (xs ++ s.data.toList).length (flat (xs ++ s.data.toList)) /\ W.grownBy W' (Value.slice a xs.length c).ownBlock /\ ((Value.slice a' (xs.length + s.size) c').ownBlock = (Value.slice a xs.length c).ownBlock ∨ (Value.slice a' (xs.length + s.size) c').ownBlock = some W.heap.size) := by
  obtain ⟨i0, hi, hz0, hz1, hz2⟩ := info_parts infoB
  obtain ⟨v', W', hr, hO, hg, hnil⟩ := Go.Lib.run_append_own_string (P := Tryz.prog) W B 37 9 37 5 i0 Tryz.underlying37 Tryz.underlying9 hi hz0 hz1 hz2 (.slice a xs.length c) xs.length (flat xs) hv s (by simp [maxLen]; omega) (by omega) hB
  have hob : v'.ownBlock = (Value.slice a xs.length c).ownBlock ∨ v'.ownBlock = some W.heap.size := by
    rcases hv.2 with ⟨e, h0⟩ | ⟨g, cap, cur, e, hbg, hgb, hnc, hcm, hcs, htake⟩
    . by_cases hm : s.size = 0
      . left; rw [hnil.2 ⟨e, hm⟩, e]
      . rw [e] at hr
        have hr2 := run_append_nil_string (P := Tryz.prog) W 37 9 37 5 i0 (.int .u8 0) Tryz.underlying37 Tryz.underlying9 hi hz0 s (by omega) (by omega) (by rw [hz2]; omega)
        rw [hr] at hr2
        simp only [Result.ok.injEq] at hr2
        right; rw [hr2.1]; rfl
    . simp only [Value.slice.injEq] at e
      obtain ⟨rfl, _, rfl⟩ := e
      by_cases hroom : xs.length + s.size <= c
      . have hr2 := Go.Lib.run_append_room_string (P := Tryz.prog) W 37 9 37 5 i0 Tryz.underlying37 Tryz.underlying9 hi hz1 g xs.length c cur hgb s hroom (by omega)
        rw [hr] at hr2
        simp only [Result.ok.injEq] at hr2
        left; rw [hr2.1]; rfl
      . have hr2 := Go.Lib.run_append_grow_string (P := Tryz.prog) W 37 9 37 5 i0 (.int .u8 0) Tryz.underlying37 Tryz.underlying9 hi hz0 ⟨g, 0, none⟩ xs.length c (flat xs) (by rw [hz1]; exact hv.1) (hv.cells (g := g) rfl) s (by omega) (by omega) (by rw [hz2]; exact growslice_fits (by omega) (by omega))
        rw [hr] at hr2
        simp only [Result.ok.injEq] at hr2
        right; rw [hr2.1]; rfl
  obtain ⟨a', c', rfl, _⟩ := owns_form hO
  refine ⟨a', c', W', hr, ?_, hg, hob⟩
  have e1 : (xs ++ s.data.toList).length = xs.length + s.size := by rw [List.length_append, Array.length_toList]; rfl
  have e2 : flat (xs ++ s.data.toList) = flat xs ++ Go.Lib.strCells s := by rw [flat_append, flat_str]
  rw [e1, e2]
  exact hO
theorem write_s {P : Nat -> Prop} {b : Nat} {a : Option Addr} {c : Nat} {xs : List UInt8} (s : ByteArray) {W : World} (hb : Blk W b 179 #[.slice a xs.length c]) (hv : W.ownsRow 0 5 1 (.slice a xs.length c) xs.length (flat xs))
    (h3 : ∀ g, (Value.slice a xs.length c).ownBlock = some g -> ¬ P g /\ g ≠ b) (h4 : ¬ P b) (h5 : ∀ k, P k -> k < W.heap.size) (hlen : xs.length + s.size <= 600000000) :
    ∃ a' c' W', (Builtin.append_ #[37, 9] 37 #[.slice a xs.length c, .string s]).run Tryz.prog W = .ok (.slice a' (xs.length + s.size) c') W' /\
      Blk W' b 179 #[.slice a xs.length c] /\ Wr P b (W'.setCell ⟨b, 0, none⟩ (.slice a' (xs.length + s.size) c')) (xs ++ s.data.toList) /\ Turn P W (W'.setCell ⟨b, 0, none⟩ (.slice a' (xs.length + s.size) c')) := by
  obtain ⟨a', c', W', hr, hO, hg, hat⟩ := append_s s (Nat.zero_le _) hv hlen
  have hlt := hb.lt
  have t1 : Turn (fun k => P k ∨ k = b) W W' := grown_turn hg (fun g hg q => q.elim (h3 g hg).1 (h3 g hg).2) (fun k h => h.elim (h5 k) (fun h => by omega))
  have hb' := hb.turn t1 (.inr rfl)
  have hl : (xs ++ s.data.toList).length = xs.length + s.size := by rw [List.length_append, Array.length_toList]; rfl
  have hown : ∀ g, (Value.slice a' (xs.length + s.size) c').ownBlock = some g -> ¬ P g /\ g ≠ b := by
    intro g hg
    rcases hat with e | e
    . rw [e] at hg; exact h3 g hg
    . rw [e] at hg
      simp only [Option.some.injEq] at hg
      exact ⟨fun q => by have := h5 g q; omega, by omega⟩
  refine ⟨a', c', W', hr, hb', ⟨a', c', ?_, owns_set hO (by rw [hl]; intro e; exact (hown b e.symm).2 rfl), by rw [hl]; exact hown, h4, fun k hk => by have := h5 k hk; have := t1.size; simp; omega⟩, (t1.mono (fun k hk => .inl hk)).set h4 0 _⟩
  have := hb'.setAt 0 (.slice a' (xs.length + s.size) c')
  rw [hl]
  exact this
set_option maxRecDepth 100000 in
set_option maxHeartbeats 1000000 in
theorem wtext_any (P : Nat -> Prop) (b : Nat) (s : ByteArray) (xs : List UInt8) (hx : xs.length + s.size <= 599998000) (w : World) (hW : Wr P b w xs) :
    Calls Tryz.prog 121 #[.pointer (some ⟨b, 0, none⟩), .string s] w fun e w' => e = .returned (.tuple #[]) /\ Turn P w w' /\ Wr P b w' (xs ++ (numB s.size ++ s.data.toList)) := by
  have hl0 := hidP (numB_le (n := s.size) (by omega))
  have HW := hidP hW
  clear hW
  go_enter Tryz.func121, Tryz.ntmps121
  go_wp2_with fail
  refine (number_any P b s.size (by omega) xs (by omega) _ HW.out).mono ?_
  rintro e w1 ⟨rfl, t1, hW1⟩
  obtain ⟨a, c, p, hv, h3, h4, h5⟩ := hW1
  have c0 := p.row1
  have q0 := p.lt
  have hl1 : (xs ++ numB s.size).length + s.size <= 600000000 := by have := hl0.out; rw [List.length_append]; omega
  generalize hys : xs ++ numB s.size = ys at *
  obtain ⟨a', c', W', hr, p', hW', hT'⟩ := write_s s p hv h3 h4 h5 hl1
  have d0 := p'.row1
  have f0 := p'.thaw 0
  have HW' := hidP hW'
  have HT := hidP (t1.trans hT')
  have Hys := hidP hys
  clear hW' hT' hv p p' t1 HW hys h3 h4 h5
  go_wp2_with (at_builtin; refine wpList_appS_is rfl _ _ _ _ rfl _ _ _ rfl rfl hr ?_)
  go_end0
  refine ⟨rfl, HT.out, ?_⟩
  rw [← List.append_assoc, Hys.out]
  exact HW'.out
end Go.Proofs.YtaefjifcnoiplaaGreat.Gen

/-
  What is tried: a function that returns, or panics with a value of some type: told by true or false, and nothing else turns but one new box. No condition.
-/
namespace Go.Proofs.YtaefjifcnoiplaaGreat.Gen
open Go.ChangeShapes Go.WideShapes Go.ChangeAt Go.RowKit Go.Joins Go.Deep Base
set_option linter.unusedVariables false
theorem catch_panicking (p : Addr) (x : Value) (u : TypeId) (pv : Value) (older : List PanicEntry) (w : World) (hc : w.cell? p = some x) (hz : w.frozen? p = false) :
    CallsD Tryz.prog 162 #[.pointer (some p)] (.panicking ({ v := .iface u pv, recovered := false } :: older)) w fun e u' w' =>
      e = .returned (.tuple #[]) /\ u' = .panicking ({ v := .iface u pv, recovered := true } :: older) /\ w' = w.setCell p (.bool false) := by
  refine callsD_of_wpS Tryz.func162 rfl fun c₀ cs hu => ?_
  apply wpS_region
  simp [wpOpsS, go_sem, recoverD, hu, Tryz.ntmps162, hc, hz, bodyPostS, results, Tryz.results162]
theorem catch_idle (p : Addr) (x : Value) (w : World) (hc : w.cell? p = some x) (hz : w.frozen? p = false) :
    CallsD Tryz.prog 162 #[.pointer (some p)] .returning w fun e u' w' => e = .returned (.tuple #[]) /\ u' = .returning /\ w' = w.setCell p (.bool true) := by
  refine callsD_of_wpS Tryz.func162 rfl fun c₀ cs hu => ?_
  apply wpS_region
  simp [wpOpsS, go_sem, recoverD, hu, Tryz.ntmps162, hc, hz, bodyPostS, results, Tryz.results162]
  cases c₀
  simp_all
theorem tried_any (f : FuncId) (cap : Array Value) (w : World) (R S : World -> Prop) (hcf : ∀ W : World, (callFunc f cap).run Tryz.prog W = .ok (.enter f cap) W)
    (h : Calls Tryz.prog f cap (w.alloc (.cells #[.bool false] 4)) fun e W => Blk W w.heap.size 4 #[.bool false] /\ ((e = .returned (.tuple #[]) /\ R W) ∨ (∃ t v, e = .panicked [{ v := .iface t v, recovered := false }] /\ S W))) :
    Calls Tryz.prog 116 #[.func (.func f) #[] cap] w fun e W => ∃ W0, Only w.heap.size W0 W /\ ((e = .returned (.bool true) /\ R W0) ∨ (e = .returned (.bool false) /\ S W0)) := by
  have hmf : ∀ (fn : Fn) (first cap : Array Value) (w : World), (Instr.makeFunc fn first cap).run Tryz.prog w = .ok (.func fn first cap) w := fun _ _ _ _ => rfl
  have HH := hidP h
  clear h
  go_enter_defers Tryz.func116, Tryz.ntmps116
  go_wp2_with fail
  refine HH.out.mono ?_
  rintro e W ⟨p, h⟩
  have c0 := p.row1
  have f0 := p.thaw 0
  have q0 := p.lt
  have c1 := (p.setAt 0 (.bool true)).row1
  have f1 := (p.setAt 0 (.bool true)).thaw 0
  rcases h with ⟨rfl, hR⟩ | ⟨t, v, rfl, hS⟩
  . go_wp2
    refine leaves_cons (f := 162) (args := #[.pointer (some ⟨w.heap.size, 0, none⟩)]) (by simp) (by simp [go_sem]) ?_
    refine (catch_idle ⟨w.heap.size, 0, none⟩ _ _ c1 f1).mono ?_
    rintro e u' w'' ⟨rfl, rfl, rfl⟩
    have c2 := ((p.setAt 0 (.bool true)).setAt 0 (.bool true)).row1
    refine ⟨.bool true, ?_, W, ((Only.refl _ _).set 0 _).set 0 _, .inl ⟨rfl, hR⟩⟩
    simp only [results, Tryz.results116]
    simp [go_sem, c2]
  . refine leaves_cons (f := 162) (args := #[.pointer (some ⟨w.heap.size, 0, none⟩)]) (by simp) (by simp [go_sem]) ?_
    refine (catch_panicking ⟨w.heap.size, 0, none⟩ _ t v [] _ c0 f0).mono ?_
    rintro e u' w'' ⟨rfl, rfl, rfl⟩
    have c2 := (p.setAt 0 (.bool false)).row1
    refine ⟨.bool false, ?_, W, (Only.refl _ _).set 0 _, .inr ⟨rfl, hS⟩⟩
    simp only [results, Tryz.results116]
    simp [go_sem, c2]
end Go.Proofs.YtaefjifcnoiplaaGreat.Gen

/-
  What is written by a function that is handed a writer: its bytes, in memory of their own; nothing where it panics. No condition.
-/
namespace Go.Proofs.YtaefjifcnoiplaaGreat.Gen
open Go.ChangeShapes Go.WideShapes Go.ChangeAt Go.RowKit Go.Joins Go.Deep Base
set_option linter.unusedVariables false
def WEnd (P : Nat -> Prop) (b : Nat) (W' : World) (e : Ending) : Option (List UInt8) -> Prop
  | some L => e = .returned (.tuple #[]) /\ Wr P b W' L
  | none => ∃ t v, e = .panicked [{ v := .iface t v, recovered := false }]
def Writes (f : FuncId) (cap : Array Value) (o : Option (List UInt8)) (P : Nat -> Prop) (b : Nat) (W : World) : Prop :=
  Calls Tryz.prog f (#[.pointer (some ⟨b, 0, none⟩)] ++ cap) W fun e W' => Turn P W W' /\ WEnd P b W' e o
theorem owns_baseB {B : Nat} {W : World} {v : Value} {t : TypeId} {k n : Nat} {xs : List Value} (h : W.ownsRow 0 t k v n xs) (hB : ∀ g, v.ownBlock = some g -> B <= g) : W.ownsRow B t k v n xs := by
  refine ⟨h.1, ?_⟩
  rcases h.2 with ⟨rfl, rfl⟩ | ⟨g, c, cur, rfl, _, hg, hc, hm, hsz, ht⟩
  . exact .inl ⟨rfl, rfl⟩
  . exact .inr ⟨g, c, cur, rfl, hB g rfl, hg, hc, hm, hsz, ht⟩
theorem owns_onlyB {B b : Nat} {W W' : World} {v : Value} {t : TypeId} {k n : Nat} {xs : List Value} (h : W.ownsRow B t k v n xs) (hb : Only b W W') (hlt : b < B) : W'.ownsRow B t k v n xs := by
  refine ⟨h.1, ?_⟩
  rcases h.2 with ⟨rfl, rfl⟩ | ⟨g, c, cur, rfl, hB, hg, hc, hm, hsz, ht⟩
  . exact .inl ⟨rfl, rfl⟩
  . exact .inr ⟨g, c, cur, rfl, hB, Blk.only (show Blk W g t cur from hg) hb (by omega), hc, hm, hsz, ht⟩
theorem written1_any (f : FuncId) (cap : Array Value) (o : Option (List UInt8)) (P : Nat -> Prop) (b z y : Nat) (W : World) (hcf : ∀ (p : Value) (W : World), (callFunc f (#[p] ++ cap)).run Tryz.prog W = .ok (.enter f (#[p] ++ cap)) W)
    (p : Blk W z 105 #[.func (.func f) #[] cap]) (q : Blk W y 103 #[.pointer (some ⟨b, 0, none⟩)]) (h : Writes f cap o P b W) :
    Calls Tryz.prog 117 #[.pointer (some ⟨z, 0, none⟩), .pointer (some ⟨y, 0, none⟩)] W fun e W' => Turn P W W' /\ WEnd P b W' e o := by
  have HH := hidP h
  have c0 := p.row1
  have c1 := q.row1
  clear h p q
  go_enter Tryz.func117, Tryz.ntmps117
  go_wp2_with fail
  refine HH.out.mono ?_
  rintro e W' ⟨t1, h⟩
  cases o with
  | some L =>
    obtain ⟨rfl, h⟩ := h
    go_wp2
    go_end0
    exact ⟨t1, rfl, h⟩
  | none =>
    obtain ⟨t, v, rfl⟩ := h
    exact ⟨rfl, t1, t, v, rfl⟩
set_option maxRecDepth 100000 in
set_option maxHeartbeats 1000000 in
theorem written_any (f : FuncId) (cap : Array Value) (o : Option (List UInt8)) (w : World) (hcf : ∀ (p : Value) (W : World), (callFunc f (#[p] ++ cap)).run Tryz.prog W = .ok (.enter f (#[p] ++ cap)) W)
    (h : ∀ W, Below w.heap.size w W -> ∀ (P : Nat -> Prop) b, (∀ k, k < w.heap.size -> P k) -> Wr P b W [] -> Writes f cap o P b W) :
    Calls Tryz.prog 54 #[.func (.func f) #[] cap] w fun e w' => ∃ a c, e = .returned (.slice a (o.getD []).length c) /\ Below w.heap.size w w' /\ w'.ownsRow w.heap.size 5 1 (.slice a (o.getD []).length c) (o.getD []).length (flat (o.getD [])) := by
  have hmf : ∀ (fn : Fn) (first cap : Array Value) (w : World), (Instr.makeFunc fn first cap).run Tryz.prog w = .ok (.func fn first cap) w := fun _ _ _ _ => rfl
  have hcf1 : ∀ W : World, (callFunc 117 #[.pointer (some ⟨w.heap.size, 0, none⟩), .pointer (some ⟨w.heap.size + 1 + 1, 0, none⟩)]).run Tryz.prog W = .ok (.enter 117 #[.pointer (some ⟨w.heap.size, 0, none⟩), .pointer (some ⟨w.heap.size + 1 + 1, 0, none⟩)]) W := fun W => by simp [go_sem]
  have pz := (((Blk.new w 105 #[.func (.func f) #[] cap]).alloc (.cells #[.slice none 0 0] 179)).alloc (.cells #[.pointer (some ⟨w.heap.size + 1, 0, none⟩)] 103)).alloc (.cells #[.bool false] 4)
  have pb := ((Blk.new (w.alloc (.cells #[.func (.func f) #[] cap] 105)) 179 #[.slice none 0 0]).alloc (.cells #[.pointer (some ⟨w.heap.size + 1, 0, none⟩)] 103)).alloc (.cells #[.bool false] 4)
  have py := (Blk.new ((w.alloc (.cells #[.func (.func f) #[] cap] 105)).alloc (.cells #[.slice none 0 0] 179)) 103 #[.pointer (some ⟨w.heap.size + 1, 0, none⟩)]).alloc (.cells #[.bool false] 4)
  have pd := Blk.new (((w.alloc (.cells #[.func (.func f) #[] cap] 105)).alloc (.cells #[.slice none 0 0] 179)).alloc (.cells #[.pointer (some ⟨w.heap.size + 1, 0, none⟩)] 103)) 4 #[.bool false]
  have hbl := alloc0 (alloc0 (alloc0 (alloc0 (Below.refl _ w) (.cells #[.func (.func f) #[] cap] 105)) (.cells #[.slice none 0 0] 179)) (.cells #[.pointer (some ⟨w.heap.size + 1, 0, none⟩)] 103)) (.cells #[.bool false] 4)
  simp only [World.size_alloc] at pb py pd
  generalize hW4 : (((w.alloc (.cells #[.func (.func f) #[] cap] 105)).alloc (.cells #[.slice none 0 0] 179)).alloc (.cells #[.pointer (some ⟨w.heap.size + 1, 0, none⟩)] 103)).alloc (.cells #[.bool false] 4) = W4 at *
  have s4 : W4.heap.size = w.heap.size + 4 := by rw [← hW4]; simp
  let P : Nat -> Prop := fun k => k < w.heap.size + 4 /\ k ≠ w.heap.size + 1
  have wr0 : Wr P (w.heap.size + 1) W4 [] := ⟨none, 0, pb, World.ownsRow_nil _ _ _ _, fun g hg => by simp [Value.ownBlock] at hg, fun h => h.2 rfl, fun k hk => by have := hk.1; omega⟩
  have hdo := written1_any f cap o P (w.heap.size + 1) w.heap.size (w.heap.size + 1 + 1) W4 hcf pz py (h W4 hbl P (w.heap.size + 1) (fun k hk => ⟨by omega, by omega⟩) wr0)
  have htr := tried_any 117 #[.pointer (some ⟨w.heap.size, 0, none⟩), .pointer (some ⟨w.heap.size + 1 + 1, 0, none⟩)] (((w.alloc (.cells #[.func (.func f) #[] cap] 105)).alloc (.cells #[.slice none 0 0] 179)).alloc (.cells #[.pointer (some ⟨w.heap.size + 1, 0, none⟩)] 103))
    (fun W => Turn P W4 W /\ ∃ L, o = some L /\ Wr P (w.heap.size + 1) W L) (fun W => Turn P W4 W /\ o = none) hcf1 (by
      rw [hW4]
      refine hdo.mono fun e W' h1 => ?_
      obtain ⟨t1, h1⟩ := h1
      refine ⟨by simpa using pd.turn t1 ⟨by omega, by omega⟩, ?_⟩
      cases o with
      | some L => exact .inl ⟨h1.1, t1, L, rfl, h1.2⟩
      | none => obtain ⟨t, v, rfl⟩ := h1; exact .inr ⟨t, v, rfl, t1, rfl⟩)
  have HT := hidP htr
  have Hpy := hidP py
  have Hbl := hidP hbl
  have Hs4 := hidP s4
  have Pd : P (w.heap.size + 1 + 1) := ⟨by omega, by omega⟩
  have Pw : ∀ k, k < w.heap.size -> P k := fun k hk => ⟨by omega, by omega⟩
  have Pg : ∀ g, ¬ P g /\ g ≠ w.heap.size + 1 -> w.heap.size + 4 <= g := fun g hg => Nat.le_of_not_lt fun q => hg.1 ⟨q, hg.2⟩
  clear_value P
  clear htr hdo wr0 pz pb pd h hcf hcf1 py hbl s4 hW4
  go_enter Tryz.func54, Tryz.ntmps54
  go_wp2_with fail
  refine HT.out.mono ?_
  rintro e W' ⟨W0, ho, hh⟩
  rcases hh with ⟨rfl, t1, L, rfl, hW⟩ | ⟨rfl, t1, rfl⟩
  . obtain ⟨a, c, p, hv, h3, h4, h5⟩ := hW
    simp only [World.size_alloc] at ho
    have p' := p.only ho (by omega)
    have y' := (Hpy.out.turn t1 Pd).only ho (by omega)
    have c0 := p'.row1
    have c1 := y'.row1
    have hfin : Hid (Below w.heap.size w W') := Hbl.out.trans ((t1.below Pw).trans (ho.toBelow (by omega) (by have := t1.size; have := Hs4.out; omega)))
    have hown := hidP (owns_mono (C := w.heap.size) (owns_onlyB (owns_baseB (B := w.heap.size + 4) hv (fun g hg => Pg g (h3 g hg))) ho (by omega)) (by omega))
    clear ho p p' y' hv t1 hmf h3 h4 h5
    go_wp2
    go_ret
    exact ⟨a, c, rfl, hfin.out, hown.out⟩
  . simp only [World.size_alloc] at ho
    have hfin : Hid (Below w.heap.size w W') := Hbl.out.trans ((t1.below Pw).trans (ho.toBelow (by omega) (by have := t1.size; have := Hs4.out; omega)))
    go_wp2
    go_ret
    exact ⟨none, 0, rfl, hfin.out, World.ownsRow_nil _ _ _ _⟩
end Go.Proofs.YtaefjifcnoiplaaGreat.Gen

/-
  Lists of numbers: how they lie, and what the laws' to, sz, eq, mark and held functions of them do. No condition but that there are at most 1048576.
-/
namespace Go.Proofs.YtaefjifcnoiplaaGreat.Gen
open Go.ChangeShapes Go.WideShapes Go.ChangeAt Go.RowKit Go.Joins Go.Deep Base
set_option linter.unusedVariables false
instance : Cel Int where
  k := 1
  cs x := [.int .i64 x]
  len _ := rfl
  one x u hu := by simp at hu; subst hu; rfl
theorem In.getInt {w : World} {b o : Nat} {l : List Int} (h : In w b o l) (i : Nat) (hi : i < l.length) : w.cell? ⟨b, o + i, none⟩ = some (.int .i64 l[i]) := by
  have := h.cell i hi (f := 0) rfl
  have e : o + i * Cel.k Int + 0 = o + i := by show o + i * 1 + 0 = o + i; omega
  rwa [e] at this
theorem there_int {w : World} {b o m n : Nat} (h : w.there b o (m * 1)) (hn : n < m) : (∃ v, w.cell? ⟨b, o + n, none⟩ = some v) /\ w.frozen? ⟨b, o + n, none⟩ = false := by
  have := there_at (f := 0) h hn (by omega)
  rwa [Nat.mul_one, Nat.add_zero] at this
theorem infoInt : (Tryz.prog.info? 3).map (fun i => (i.zero, i.size, i.bytes)) = some (some (.int .i64 0), 1, 8) := by kernel_rfl
theorem cellsInt : Tryz.prog.cellsOf 3 = 1 := by kernel_rfl
theorem szInt_any (A : Option Addr) (n cap : Nat) (hn : n <= 9223372036854775807) (left : Int) (h0 : 0 <= left) (h1 : left <= 1048576) (w : World) :
    Calls Tryz.prog 31 #[.slice A n cap, .int .i64 left] w fun e w' => e = .returned (.int .i64 (if left < n then -1 else left - n)) /\ w' = w := by
  by_cases h : left < n
  . have g : left - (n : Int) < 0 := by omega
    rw [if_pos h]
    go_enter Tryz.func31, Tryz.ntmps31
    go_wp2
    go_ret
    exact ⟨rfl, rfl⟩
  . have g : ¬ left - (n : Int) < 0 := by omega
    rw [if_neg h]
    go_enter Tryz.func31, Tryz.ntmps31
    go_wp2
    go_ret
    exact ⟨rfl, rfl⟩
theorem store_int {w : World} {b : Nat} {l : List Int} {n : Nat} (hin : In w b 0 (l.take n)) (hth : w.there b 0 (l.length * 1)) (hn : n < l.length) :
    In (w.setCell ⟨b, n, none⟩ (.int .i64 l[n])) b 0 (l.take (n + 1)) /\ (w.setCell ⟨b, n, none⟩ (.int .i64 l[n])).there b 0 (l.length * 1) := by
  have h := store_el hin hth hn
  have e : w.setCells b (n * Cel.k Int) (Cel.cs l[n]) = w.setCell ⟨b, n, none⟩ (.int .i64 l[n]) := by
    show (w.setCell ⟨b, n * 1, none⟩ (.int .i64 l[n])) = _
    rw [Nat.mul_one]
  rw [e] at h
  exact h
theorem toInt_any (A : Option Addr) (cap : Nat) (l : List Int) (hl : l.length <= 1048576) (w : World) (hA : At w A l) :
    Calls Tryz.prog 44 #[.slice A l.length cap] w fun e w' => e = .returned (.slice (some ⟨w.heap.size, 0, none⟩) l.length l.length) /\ Below w.heap.size w w' /\ w.heap.size < w'.heap.size /\ In w' w.heap.size 0 l /\ w'.there w.heap.size 0 (l.length * 1) := by
  have HA : Hid (At w A l) := hA
  clear hA
  have hmk := make_els (P := Tryz.prog) Tryz.underlying30 infoInt (by omega) l.length hl
  go_enter Tryz.func44, Tryz.ntmps44
  go_wp2
  go_loopw [4] (fun i w' => ∃ (n : Nat), i = .int .i64 (n : Int) /\ n <= l.length /\ Below w.heap.size w w' /\ w.heap.size < w'.heap.size /\ Hid (In w' w.heap.size 0 (l.take n)) /\ Hid (w'.there w.heap.size 0 (l.length * 1))) (fun i _ => l.length - (intOf i).toNat)
  case atStart => exact ⟨0, rfl, by omega, by repeat (first | exact Below.refl _ _ | refine via0 (by assumption) ?_ | refine Below.drew ?_ | refine alloc0 ?_ _), by simp, In.nil _ _ _, hidP (by have h := made_there w #[Value.int .i64 0] l.length 1 3; simpa using h)⟩
  case round =>
    obtain ⟨n, rfl, hn, hbl, hsz, hin, hth⟩ := hrel
    by_cases hlt : n < l.length
    . obtain ⟨b, o, rfl, hbs, hIn⟩ : ∃ b o, A = some ⟨b, o, none⟩ /\ b < w.heap.size /\ In w b o l := by
        rcases HA.out with h | h
        . subst h; simp at hlt
        . exact h
      have c0 := (hIn.below hbs hbl).getInt n hlt
      obtain ⟨⟨v0, d0⟩, f0⟩ := there_int hth.out hlt
      simp only [Nat.zero_add] at d0 f0
      go_wp2
      have hst := store_int hin.out hth.out hlt
      exact ⟨⟨n + 1, by go_num, by omega, hbl.setCell (Nat.le_refl _) _, by simpa using hsz, hst.1, hst.2⟩, by simp [intOf]; omega⟩
    . have e : l.take n = l := List.take_of_length_le (by omega)
      go_wp2
      go_ret
      exact ⟨rfl, hbl, hsz, by have := hin.out; rwa [e] at this, hth.out⟩
theorem eqInt_same (A A' : Option Addr) (cap cap' : Nat) (l : List Int) (hl : l.length <= 9223372036854775807) (w : World) (hA : At w A l) (hA' : At w A' l) :
    Calls Tryz.prog 63 #[.slice A l.length cap, .slice A' l.length cap'] w fun e w' => e = .returned (.bool true) /\ Below w.heap.size w w' := by
  have HA : Hid (At w A l) := hA
  have HA' : Hid (At w A' l) := hA'
  clear hA hA'
  go_enter Tryz.func63, Tryz.ntmps63
  go_wp2
  go_loopw [5] (fun i w' => ∃ (n : Nat), i = .int .i64 (n : Int) /\ n <= l.length /\ Below w.heap.size w w') (fun i _ => l.length - (intOf i).toNat)
  case atStart => exact ⟨0, rfl, by omega, Below.refl _ _⟩
  case round =>
    obtain ⟨n, rfl, hn, hbl⟩ := hrel
    by_cases hlt : n < l.length
    . obtain ⟨b, o, rfl, hbs, hin⟩ : ∃ b o, A = some ⟨b, o, none⟩ /\ b < w.heap.size /\ In w b o l := by
        rcases HA.out with h | h
        . subst h; simp at hlt
        . exact h
      obtain ⟨b', o', rfl, hbs', hin'⟩ : ∃ b o, A' = some ⟨b, o, none⟩ /\ b < w.heap.size /\ In w b o l := by
        rcases HA'.out with h | h
        . subst h; simp at hlt
        . exact h
      have c0 := (hin.below hbs hbl).getInt n hlt
      have d0 := (hin'.below hbs' hbl).getInt n hlt
      have hi0 : (0 : Int) <= (n : Int) := by omega
      have hi1 : (n : Int) < (l.length : Int) := by omega
      go_wp2
      go_region
      all_goals
        go_wp2
        exact ⟨⟨n + 1, by go_num, by omega, by repeat (first | exact hbl | refine Below.drew ?_)⟩, by simp [intOf]; omega⟩
    . go_wp2
      go_ret
      exact ⟨rfl, hbl⟩
def marksInt (n : Nat) (z : Int) : List Int := (List.range n).map fun (i : Nat) => z + (i : Int)
theorem marksInt_length (n : Nat) (z : Int) : (marksInt n z).length = n := by simp [marksInt]
theorem marksInt_succ (n : Nat) (z : Int) : marksInt (n + 1) z = marksInt n z ++ [z + (n : Int)] := by simp [marksInt, List.range_succ]
set_option maxHeartbeats 1000000 in
theorem markInt_any (b o cap m : Nat) (k : Int) (hk : 1 <= k) (hk' : k <= 100000000) (hm : m <= 2000000) (w : World) (hb : b < w.heap.size) (hth : w.there b o (m * 1)) :
    Calls Tryz.prog 69 #[.slice (some ⟨b, o, none⟩) m cap, .int .i64 k] w fun e w' => e = .returned (.int .i64 (k + (m : Int))) /\ Only b w w' /\ In w' b o (marksInt m k) /\ w'.there b o (m * 1) := by
  have HT : Hid (w.there b o (m * 1)) := hth
  clear hth
  go_enter Tryz.func69, Tryz.ntmps69
  go_wp2
  go_loopw [1, 5] (fun kk i w' => ∃ (n : Nat) (z : Int), i = .int .i64 (n : Int) /\ kk = .int .i64 z /\ n <= m /\ 1 <= z /\ z <= 900000000 /\ Only b w w' /\ Hid (z = k + (n : Int)) /\ Hid (In w' b o (marksInt n k)) /\ Hid (w'.there b o (m * 1))) (fun _ i _ => m - (intOf i).toNat)
  case atStart => exact ⟨0, k, rfl, rfl, by omega, hk, by omega, Only.refl _ _, by simp [Hid], fun j v hv => by simp [marksInt, flat] at hv, HT.out⟩
  case round =>
    obtain ⟨n, z, rfl, rfl, hn, hz1, hz2, ho, hz, hin, hth⟩ := hrel
    by_cases hlt : n < m
    . obtain ⟨⟨v0, d0⟩, f0⟩ := there_int hth.out hlt
      have q1 : b < wr.heap.size := Nat.lt_of_lt_of_le hb ho.size
      go_wp2
      have hlen : (flat (marksInt n k)).length = n := by rw [flat_length, marksInt_length]; show n * 1 = n; omega
      have P0 := push (v := .int .i64 z) (q := o + n) ⟨hin.out, hth.out, q1⟩ (by simp [hlen]; omega) (by simp [hlen])
      have e : flat (marksInt n k) ++ [Value.int .i64 z] = flat (marksInt (n + 1) k) := by rw [marksInt_succ, flat_append, flat_one, hz.out]; rfl
      rw [e] at P0
      have hz' := hz.out
      refine ⟨⟨n + 1, z + 1, by go_num, rfl, by omega, by omega, by omega, ?_, by show z + 1 = _; omega, P0.1, P0.2.1⟩, by simp [intOf]; omega⟩
      exact ho.set _ _
    . obtain rfl : n = m := by omega
      go_wp2
      go_ret
      have e := hz.out
      subst e
      exact ⟨rfl, ho, hin.out, hth.out⟩
theorem markInt_none (A : Option Addr) (cap : Nat) (k : Int) (w : World) :
    Calls Tryz.prog 69 #[.slice A 0 cap, .int .i64 k] w fun e w' => e = .returned (.int .i64 k) /\ w' = w := by
  go_enter Tryz.func69, Tryz.ntmps69
  go_wp2
  go_loopw [1, 5] (fun kk i w' => kk = .int .i64 k /\ i = .int .i64 0 /\ w' = w) (fun _ _ _ => 0)
  case atStart => exact ⟨rfl, rfl, rfl⟩
  case round =>
    obtain ⟨rfl, rfl, rfl⟩ := hrel
    go_wp2
    go_ret
    exact ⟨rfl, rfl⟩
theorem openInt1 {H : Type} {enc : TypeId × Value -> H} {w : World} {base n : Nat} {spare : Nat -> Bool} {held : Bool} {a : Addr} {cs : List Value} {y : DataW H × List MemPlace}
    (h1 : w.cells? base a 1 = some cs) (h2 : DataW.trod enc Tryz.prog w base spare held n 3 cs = some y) :
    ∃ x : Int, I64 x /\ a.spot = none /\ a.block < w.heap.size /\ ∀ j v, (Cel.cs x)[j]? = some v -> w.cell? ⟨a.block, a.off + j, none⟩ = some v := by
  obtain ⟨_, hlen, hc⟩ := World.cells?_some h1
  match cs, hlen with
  | [c0], _ =>
    obtain ⟨x, e0, _, w0⟩ := DataW.trod_int Tryz.underlying3 h2
    simp at e0
    subst e0
    have q0 := hc 0 (by omega)
    have hsp : a.spot = none := by
      cases hs : a.spot with
      | none => rfl
      | some s => exfalso; simp [Addr.add, World.cell?, hs] at q0; split at q0<;>simp at q0
    have hlt : a.block < w.heap.size := by
      rw [show a.add 0 = a from rfl] at q0
      unfold World.cell? at q0
      cases hh : w.heap[a.block]? with
      | none => simp [hh] at q0
      | some ob => exact (Array.getElem?_eq_some_iff.1 hh).1
    refine ⟨x, i64_of w0, hsp, hlt, ?_⟩
    intro j v hv
    have hj : j < 1 := (List.getElem?_eq_some_iff.1 hv).1
    have q := hc j hj
    have e : a.add j = ⟨a.block, a.off + j, none⟩ := by
      obtain ⟨b, o, s⟩ := a
      simp only at hsp
      subst hsp
      exact Addr.add_mid b o j
    rw [e] at q
    rw [q]
    exact hv
theorem openInts {H : Type} {enc : TypeId × Value -> H} {W : World} {base n : Nat} {spare : Nat -> Bool} {held : Bool} {c : Value} {y : DataW H × List MemPlace}
    (g : DataW.trod enc Tryz.prog W base spare held n 30 [c] = some y) :
    ∃ (A : Option Addr) (cap : Nat) (l : List Int), c = .slice A l.length cap /\ l.length <= 9223372036854775807 /\ (∀ x ∈ l, I64 x) /\ At W A l := by
  rcases open_slice Tryz.underlying30 g with ⟨e2, _⟩ | ⟨a, len, cap, m, n', D, Pl, e2, _, hl, hm, hmm, _, hx⟩
  . simp at e2
    subst e2
    exact ⟨none, 0, [], rfl, by simp, by simp, .inl rfl⟩
  . simp at e2
    subst e2
    have hle : len <= m := by rw [hmm]; split<;>omega
    rw [cellsInt] at hx
    obtain ⟨X, hX⟩ := choose_lt (α := Int) (p := fun i x => I64 x /\ (a.add (i * 1)).spot = none /\ (a.add (i * 1)).block < W.heap.size /\ ∀ j v, (Cel.cs x)[j]? = some v -> W.cell? ⟨(a.add (i * 1)).block, (a.add (i * 1)).off + j, none⟩ = some v)
      (n := len) (fun i hi => by obtain ⟨cs', h1, h2⟩ := hx i (by omega); exact openInt1 h1 h2)
    obtain ⟨l, rfl, hR, hat⟩ := at_of (α := Int) (by decide) (R := I64) hX
    exact ⟨some a, cap, l, rfl, by simp [maxLen] at hm ⊢; omega, hR, hat⟩
end Go.Proofs.YtaefjifcnoiplaaGreat.Gen

/-
  Numbers one behind the other, as the specification and as the program's writer lay them. Condition: at most 300000.
-/
namespace Go.Proofs.YtaefjifcnoiplaaGreat.Gen
open Go.ChangeShapes Go.WideShapes Go.ChangeAt Go.RowKit Go.Joins Go.Deep Base
set_option linter.unusedVariables false
def numsB (L : List Int) : List UInt8 := L.flatMap numI
theorem numsB_cons (x : Int) (L : List Int) : numsB (x :: L) = numI x ++ numsB L := by simp [numsB]
theorem numsB_append (L M : List Int) : numsB (L ++ M) = numsB L ++ numsB M := by simp [numsB]
theorem numsB_take {L : List Int} {n : Nat} (h : n < L.length) : numsB (L.take (n + 1)) = numsB (L.take n) ++ numI L[n] := by
  rw [List.take_succ_eq_append_getElem h, numsB_append]
  simp [numsB]
theorem numsB_le (L : List Int) : (numsB L).length <= 5 * L.length := by
  induction L with
  | nil => simp [numsB]
  | cons x L ih => rw [numsB_cons, List.length_append, List.length_cons]; have := numI_le x; omega
theorem append_l {B : Nat} {a a' : Option Addr} {c c' : Nat} {xs ys : List UInt8} {W : World} (hB : B <= W.heap.size) (hv : W.ownsRow B 5 1 (.slice a xs.length c) xs.length (flat xs)) (hy : At W a' ys) (hlen : xs.length + ys.length <= 1000000000) :
    ∃ a2 c2 W', (Builtin.append_ #[37, 37] 37 #[.slice a xs.length c, .slice a' ys.length c']).run Tryz.prog W = .ok (.slice a2 (xs ++ ys).length c2) W' /\
      W'.ownsRow B 5 1 (.slice a2 (xs ++ ys).length c2) (xs ++ ys).length (flat (xs ++ ys)) /\ W.grownBy W' (Value.slice a xs.length c).ownBlock := by
  obtain ⟨v', W', hr, hown, hg, _⟩ := append_els8 B (.slice a xs.length c) xs ys a' c' W hB hv hy hlen
  obtain ⟨a2, c2, rfl, _⟩ := owns_form hown
  have e : (xs ++ ys).length = xs.length + ys.length := by simp
  exact ⟨a2, c2, W', by rw [e]; exact hr, by rw [e]; exact hown, hg⟩
set_option maxRecDepth 100000 in
set_option maxHeartbeats 1000000 in
theorem specNums_any (A : Option Addr) (cap : Nat) (L : List Int) (hL : L.length <= 300000) (w : World) (hA : At w A L) :
    Calls Tryz.prog 86 #[.slice A L.length cap] w fun e w' => ∃ a c, e = .returned (.slice a (numsB L).length c) /\ Below w.heap.size w w' /\ w'.ownsRow w.heap.size 5 1 (.slice a (numsB L).length c) (numsB L).length (flat (numsB L)) := by
  have own0 : Hid ((w.alloc (.cells #[] 5)).ownsRow w.heap.size 5 1 (.slice (some ⟨w.heap.size, 0, none⟩) 0 0) 0 []) := by
    refine ⟨by simp, .inr ⟨w.heap.size, 0, #[], rfl, Nat.le_refl _, Blk.new w 5 #[], by omega, by simp [maxLen], rfl, rfl⟩⟩
  have HA := hidP hA
  clear hA
  go_enter Tryz.func86, Tryz.ntmps86
  go_wp2
  go_loopw [3, 4] (fun v i W => ∃ (n : Nat) (a : Option Addr) (c : Nat), i = .int .i64 (n : Int) /\ v = .slice a (numsB (L.take n)).length c /\ n <= L.length /\ Hid (W.ownsRow w.heap.size 5 1 (.slice a (numsB (L.take n)).length c) (numsB (L.take n)).length (flat (numsB (L.take n)))) /\ Below w.heap.size w W) (fun _ i _ => L.length - (intOf i).toNat)
  case atStart => exact ⟨0, _, _, rfl, rfl, by omega, own0, alloc0 (Below.refl _ w) _⟩
  case round =>
    obtain ⟨n, a, c, rfl, rfl, hn, hO, hbl⟩ := hrel
    by_cases hlt : n < L.length
    . obtain ⟨b, o, rfl, hbs, hin⟩ : ∃ b o, A = some ⟨b, o, none⟩ /\ b < w.heap.size /\ In w b o L := by
        rcases HA.out with h | h
        . subst h; simp at hlt
        . exact h
      have c0 := (hin.below hbs hbl).getInt n hlt
      have hi0 : (0 : Int) <= (n : Int) := by omega
      have hi1 : (n : Int) < (L.length : Int) := by omega
      have hto := hidP (numsB_take hlt)
      have hle : Hid ((numsB (L.take n)).length <= 1500000) := by have := numsB_le (L.take n); rw [List.length_take] at this; exact hidP (by omega)
      generalize numsB (L.take n) = xs at *
      generalize L[n] = x at *
      clear hin
      go_wp2_with fail
      refine (specPutNum_any x _).mono ?_
      rintro e w1 ⟨a1, c1, rfl, g1, o1⟩
      obtain ⟨a2, c2, w2, hr, hown, hg⟩ := append_l (c' := c1) (Nat.le_trans hbl.size g1.size) (owns_below hO.out g1) (fresh_owns o1).at (by have := hle.out; have := numI_le x; omega)
      have HB := hidP ((via0 g1 hbl).grown hg (via0 g1 hbl).size (fun j e => Nat.le_of_not_lt fun q => owns_far (owns_below hO.out g1) q e.symm))
      have HO := hidP hown
      clear hown hg o1 g1 hO hbl
      go_wp2_with (at_builtin; refine wpList_append_is rfl _ _ _ rfl _ _ _ rfl rfl hr ?_)
      refine ⟨⟨n + 1, a2, c2, by go_num, by rw [hto.out, List.length_append], by omega, ?_, HB.out⟩, by simp [intOf]; omega⟩
      show Hid _
      rw [hto.out]
      exact HO
    . obtain rfl : n = L.length := by omega
      rw [List.take_length] at hO
      rw [List.take_length]
      go_wp2
      go_ret
      exact ⟨a, c, rfl, hbl, hO.out⟩
set_option maxRecDepth 100000 in
set_option maxHeartbeats 1000000 in
theorem numbers_any (P : Nat -> Prop) (b : Nat) (A : Option Addr) (cap : Nat) (L : List Int) (hL : L.length <= 300000) (hr : ∀ x ∈ L, 0 <= x /\ x <= 2147483647) (xs : List UInt8) (hx : xs.length + 5 * L.length <= 599990000) (w : World)
    (hA : At w A L) (hP : L = [] ∨ ∀ k o, A = some ⟨k, o, none⟩ -> P k) (hW : Wr P b w xs) :
    Calls Tryz.prog 118 #[.pointer (some ⟨b, 0, none⟩), .slice A L.length cap] w fun e w' => e = .returned (.tuple #[]) /\ Turn P w w' /\ Wr P b w' (xs ++ numsB L) := by
  have HA := hidP hA
  have HP := hidP hP
  have HW := hidP hW
  have HR := hidP hr
  clear hA hP hW hr
  go_enter Tryz.func118, Tryz.ntmps118
  go_wp2
  go_loopw [8] (fun i W => ∃ (n : Nat), i = .int .i64 (n : Int) /\ n <= L.length /\ Hid (Turn P w W) /\ Hid (Wr P b W (xs ++ numsB (L.take n)))) (fun i _ => L.length - (intOf i).toNat)
  case atStart => exact ⟨0, rfl, by omega, Turn.refl _ _, by simpa [numsB] using HW⟩
  case round =>
    obtain ⟨n, rfl, hn, hT, hO⟩ := hrel
    by_cases hlt : n < L.length
    . obtain ⟨k, o, rfl, hbs, hin⟩ : ∃ b o, A = some ⟨b, o, none⟩ /\ b < w.heap.size /\ In w b o L := by
        rcases HA.out with h | h
        . subst h; simp at hlt
        . exact h
      have hPk : P k := by
        rcases HP.out with h | h
        . subst h; simp at hlt
        . exact h k o rfl
      have c0 := (hin.turn hT.out hPk).getInt n hlt
      have hi0 : (0 : Int) <= (n : Int) := by omega
      have hi1 : (n : Int) < (L.length : Int) := by omega
      have hto := hidP (numsB_take hlt)
      have hle : (xs ++ numsB (L.take n)).length <= 599990000 := by have := numsB_le (L.take n); rw [List.length_take] at this; rw [List.length_append]; omega
      have hrx := HR.out L[n] (List.getElem_mem hlt)
      obtain ⟨m, hm⟩ : ∃ m : Nat, L[n] = (m : Int) := ⟨(L[n]).toNat, by omega⟩
      rw [hm] at c0 hto hrx
      clear hin hm
      go_wp2_with fail
      refine (number_any P b m (by omega) _ (by omega) _ hO.out).mono ?_
      rintro e w1 ⟨rfl, t1, h1⟩
      have HT1 := hidP (hT.out.trans t1)
      rw [numI_nat (show m <= 2147483647 by omega)] at hto
      rw [List.append_assoc, ← hto.out] at h1
      have H1 := hidP h1
      clear t1 h1 hT hO
      go_wp2
      exact ⟨⟨n + 1, by go_num, by omega, HT1, H1⟩, by simp [intOf]; omega⟩
    . obtain rfl : n = L.length := by omega
      rw [List.take_length] at hO
      go_wp2
      go_end0
      exact ⟨rfl, hT.out, hO.out⟩
end Go.Proofs.YtaefjifcnoiplaaGreat.Gen

/-
  PutNum and PutText, the program's and the specification's: the bytes, in memory of their own. Condition: at most 1048576 bytes of text.
-/
namespace Go.Proofs.YtaefjifcnoiplaaGreat.Gen
open Go.ChangeShapes Go.WideShapes Go.ChangeAt Go.RowKit Go.Joins Go.Deep Base
set_option linter.unusedVariables false
def txtB (s : ByteArray) : List UInt8 := numB s.size ++ s.data.toList
theorem txtB_length (s : ByteArray) : (txtB s).length = (numB s.size).length + s.size := by unfold txtB; rw [List.length_append, Array.length_toList]; rfl
set_option maxRecDepth 100000 in
set_option maxHeartbeats 1000000 in
theorem specPutText_any (s : ByteArray) (hs : s.size <= 1048576) (w : World) :
    Calls Tryz.prog 87 #[.string s] w fun e w' => ∃ a c, e = .returned (.slice a (txtB s).length c) /\ Below w.heap.size w w' /\ w'.ownsRow w.heap.size 5 1 (.slice a (txtB s).length c) (txtB s).length (flat (txtB s)) := by
  go_enter Tryz.func87, Tryz.ntmps87
  go_wp2_with fail
  refine (specPutNum_any (s.size : Int) _).mono ?_
  rintro e w1 ⟨a, c, rfl, hb, ho⟩
  rw [numI_nat (show s.size <= 2147483647 by omega)] at ho
  rw [numI_nat (show s.size <= 2147483647 by omega)]
  have hl0 := numB_le (n := s.size) (by omega)
  have hcv := Go.Lib.run_convert_string_bytes (P := Tryz.prog) w1 9 37 5 s Tryz.underlying9 Tryz.underlying37 Tryz.underlying5
  have hbb := bytes_below w1 5 s
  have hat := bytes_at w1 5 s
  generalize Go.Lib.bytesWorld w1 5 s = w2 at *
  have hlen : s.data.toList.length = s.size := by rw [Array.length_toList]; rfl
  obtain ⟨v', w3, hr, hown3, hgrow, _⟩ := append_els8 w.heap.size (.slice a (numB s.size).length c) (numB s.size) s.data.toList (some ⟨w1.heap.size, 0, none⟩) (grownCap w1 s.size 0 5) w2 (by have := hb.size; have := hbb.size; omega) (owns_below ho hbb) hat (by rw [hlen]; omega)
  obtain ⟨a', c', rfl, _⟩ := owns_form hown3
  rw [hlen] at hr
  have HB := hidP ((via0 hbb hb).grown hgrow (via0 hbb hb).size (fun j e => Nat.le_of_not_lt fun q => owns_far ho q e.symm))
  have HO := hidP hown3
  clear hown3 hgrow hat hbb hb ho
  go_wp2_with (at_builtin; refine wpList_append_is rfl _ _ _ rfl _ _ _ rfl rfl hr ?_)
  go_ret
  have e1 : (txtB s).length = (numB s.size).length + s.data.toList.length := by rw [hlen, txtB_length]
  rw [e1]
  exact ⟨a', c', rfl, HB.out, HO.out⟩
end Go.Proofs.YtaefjifcnoiplaaGreat.Gen
