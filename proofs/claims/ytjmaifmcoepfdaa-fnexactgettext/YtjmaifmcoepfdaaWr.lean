/-
  The program's writer: what it writes of a number and of a text, and where it panics. Condition: at most 2000000 bytes.
-/
import Derived.Test.YtjmaifmcoepfdaaSPutNum
import Derived.Lib.AppendStr
import Derived.WalkSmall
namespace Go.Proofs.Ytjmaifmcoepfdaa.Gen
open Go.ChangeShapes Go.WideShapes Go.ChangeAt Go.RowKit Go.Joins Go.Deep Base
set_option linter.unusedVariables false

/-- Of the blocks below B one alone may have turned. -/
structure Turn (B b : Nat) (w w' : World) : Prop where
  os : w'.os = w.os
  tape : w'.tape = w.tape
  output : w'.output = w.output
  size : w.heap.size ≤ w'.heap.size
  block : ∀ k, k < B → k ≠ b → w'.heap[k]? = w.heap[k]?
theorem Turn.refl (B b : Nat) (w : World) : Turn B b w w := ⟨rfl, rfl, rfl, Nat.le_refl _, fun _ _ _ => rfl⟩
theorem Turn.trans {B b : Nat} {w w1 w2 : World} (h : Turn B b w w1) (k : Turn B b w1 w2) : Turn B b w w2 :=
  ⟨k.os.trans h.os, k.tape.trans h.tape, k.output.trans h.output, Nat.le_trans h.size k.size, fun i hi hb => (k.block i hi hb).trans (h.block i hi hb)⟩
theorem Turn.of_below {B b : Nat} {w w1 : World} (h : Below B w w1) : Turn B b w w1 := ⟨h.os, h.tape, h.output, h.size, fun i hi _ => h.block i hi⟩
theorem Turn.set {B b : Nat} {w w1 : World} (h : Turn B b w w1) (o : Nat) (v : Value) : Turn B b w (w1.setCell ⟨b, o, none⟩ v) :=
  ⟨h.os, h.tape, h.output, by simpa using h.size, fun i hi hb => (Below.heap_setCell w1 ⟨b, o, none⟩ v i hb).trans (h.block i hi hb)⟩
theorem Turn.below {B b : Nat} {w w1 : World} (h : Turn B b w w1) {n : Nat} (hn : n ≤ B) (hb : n ≤ b) : Below n w w1 := ⟨h.os, h.tape, h.output, h.size, fun i hi => h.block i (by omega) (by omega)⟩
theorem Blk.turn {B b : Nat} {W W' : World} {k : Nat} {t : TypeId} {vs : Array Value} (h : Blk W k t vs) (g : Turn B b W W') (hk : k < B) (hne : k ≠ b) : Blk W' k t vs := (g.block k hk hne).trans h

/-- The writer at block b has written xs, into memory at B or behind it. -/
def Wr (B b : Nat) (W : World) (xs : List UInt8) : Prop :=
  ∃ a c, Blk W b 85 #[.slice a xs.length c] ∧ W.ownsRow B 5 1 (.slice a xs.length c) xs.length (flat xs) ∧ b < B ∧ B ≤ W.heap.size

theorem Wr.below {B b : Nat} {W W' : World} {xs : List UInt8} (h : Wr B b W xs) (g : Below W.heap.size W W') : Wr B b W' xs := by
  obtain ⟨a, c, h1, h2, h3, h4⟩ := h
  exact ⟨a, c, h1.below g h1.lt, owns_below h2 g, h3, Nat.le_trans h4 g.size⟩

/-- One byte more. -/
theorem write_b {B b : Nat} {a : Option Addr} {c : Nat} {xs : List UInt8} {x : UInt8} {z : Int} (hz : (x.toNat : Int) = z) {W : World} (hb : Blk W b 85 #[.slice a xs.length c]) (hv : W.ownsRow B 5 1 (.slice a xs.length c) xs.length (flat xs)) (hbB : b < B) (hB : B ≤ W.heap.size) (hlen : xs.length ≤ 2000000) :
    ∃ a' c' W', (Builtin.append_ #[22, 22] 22 #[.slice a xs.length c, .slice (some ⟨W.heap.size, 0, none⟩) 1 1]).run Try.prog (W.alloc (.cells #[.int .u8 z] 5)) = .ok (.slice a' (xs.length + 1) c') W' ∧
      Blk W' b 85 #[.slice a xs.length c] ∧ Wr B b (W'.setCell ⟨b, 0, none⟩ (.slice a' (xs.length + 1) c')) (xs ++ [x]) ∧ Turn B b W (W'.setCell ⟨b, 0, none⟩ (.slice a' (xs.length + 1) c')) := by
  obtain ⟨a', c', W', hr, hO, hg, hat⟩ := append_b B a c xs x z hz W hB hv hlen
  have hbl := grown_below (Below.refl B W) hv (.cells #[.int .u8 z] 5) hB hg
  have hb' := hb.below hbl hbB
  refine ⟨a', c', W', hr, hb', ?_, (Turn.of_below hbl).set 0 _⟩
  have hl : (xs ++ [x]).length = xs.length + 1 := by simp
  refine ⟨a', c', ?_, owns_set hO (by rw [hl] at hO ⊢; exact owns_far hO hbB), hbB, by simpa using Nat.le_trans hB hbl.size⟩
  have := hb'.setAt 0 (.slice a' (xs.length + 1) c')
  rw [hl]
  exact this

set_option maxRecDepth 100000 in
set_option maxHeartbeats 1000000 in
theorem number_any (B b n : Nat) (hn : n ≤ 2147483647) (xs : List UInt8) (hx : xs.length ≤ 1999990) (w : World) (hW : Wr B b w xs) :
    Calls Try.prog 38 #[.pointer (some ⟨b, 0, none⟩), .int .i64 (n : Int)] w fun e w' => e = .returned (.tuple #[]) ∧ Turn B b w w' ∧ Wr B b w' (xs ++ numB n) := by
  have hin : inB (n : Int) 0 2147483647 = true := by simp [inB]; omega
  have hl0 := hidP (numB_le (n := n) (by omega))
  have HW := hidP hW
  clear hW
  go_enter Try.func38, Try.ntmps38
  go_wp2_with fail
  refine (within_any _ _ _ _).mono ?_
  rintro e w ⟨rfl, rfl⟩
  rw [hin]
  go_wp2
  go_loopw [1] (fun x W => ∃ (m : Nat) (ys : List UInt8), x = .int .i64 (m : Int) ∧ m ≤ 2147483647 ∧ Hid (ys ++ numB m = xs ++ numB n) ∧ Hid (Wr B b W ys) ∧ Hid (Turn B b w W)) (fun x _ => (intOf x).toNat)
  case atStart => exact ⟨n, xs, rfl, hn, rfl, HW, Turn.refl _ _ _⟩
  case round =>
    obtain ⟨m, ys, rfl, hm, hy, hO, hT⟩ := hrel
    have hyl : ys.length ≤ 1999999 := by have h1 := congrArg List.length hy.out; have h2 := hl0.out; rw [List.length_append, List.length_append] at h1; omega
    obtain ⟨a, c, p, hv, hbB, hB⟩ := hO.out
    have c0 := p.row1
    have q0 := p.lt
    by_cases hlt : m < 128
    · obtain ⟨a', c', W', hr, p', hW', hT'⟩ := write_b (x := UInt8.ofNat m) (z := (m : Int)) (by rw [UInt8.toNat_ofNat']; omega) p hv hbB hB (by omega)
      have HW' := hidP hW'
      have HT' := hidP (hT.out.trans hT')
      have d0 := p'.row1
      have f0 := p'.thaw 0
      have he : Hid (ys ++ [UInt8.ofNat m] = xs ++ numB n) := by show _ = _; rw [← hy.out, numB_small hlt]
      clear hW' hT' hv p p'
      go_wp2_with (at_builtin; refine wpList_append_is rfl _ _ _ rfl _ _ _ rfl rfl hr ?_)
      go_end0
      refine ⟨rfl, HT'.out, ?_⟩
      have := HW'.out
      rwa [he.out] at this
    · have e8 : ((UInt8.ofNat (m % 128 + 128)).toNat : Int) = (m : Int) % 128 + 128 := by rw [UInt8.toNat_ofNat']; omega
      obtain ⟨a', c', W', hr, p', hW', hT'⟩ := write_b (x := UInt8.ofNat (m % 128 + 128)) e8 p hv hbB hB (by omega)
      have HW' := hidP hW'
      have HT' := hidP (hT.out.trans hT')
      have d0 := p'.row1
      have f0 := p'.thaw 0
      have he : Hid (ys ++ [UInt8.ofNat (m % 128 + 128)] ++ numB (m / 128) = xs ++ numB n) := by show _ = _; rw [← hy.out, numB_big hlt]; simp
      clear hW' hT' hv p p' e8
      go_wp2_with (at_builtin; refine wpList_append_is rfl _ _ _ rfl _ _ _ rfl rfl hr ?_)
      refine ⟨⟨m / 128, ys ++ [UInt8.ofNat (m % 128 + 128)], ?_, by omega, he, HW', HT'⟩, ?_⟩
      · show Value.int .i64 _ = Value.int .i64 _
        congr 1
      · simp [intOf]; omega

theorem number_bad (b : Nat) (n : Int) (hn : ¬ (0 ≤ n ∧ n ≤ 2147483647)) (w : World) :
    Calls Try.prog 38 #[.pointer (some ⟨b, 0, none⟩), .int .i64 n] w fun e w' => e = .panicked [{ v := .iface 9 (.string ⟨#[110, 111, 32, 110, 117, 109, 98, 101, 114]⟩), recovered := false }] ∧ w' = w := by
  have hin : inB n 0 2147483647 = false := by simp [inB]; omega
  clear hn
  go_enter Try.func38, Try.ntmps38
  go_wp2_with fail
  refine (within_any _ _ _ _).mono ?_
  rintro e w ⟨rfl, rfl⟩
  rw [hin]
  go_wp2
  exact ⟨rfl, rfl, rfl⟩

theorem wpList_appS_is {P : Program} {w w' : World} {ops : Array Oper} {rest : List Oper} {o : Oper} {a : Act} {Q : Exit → Act → World → Prop} (hgd : o.guard = none) (s x : Operand) (t u : TypeId)
    (ho : o.op = .call { callee := .builtin .append, args := #[s, x], argTypes := #[t, u] }) (v xv r : Value) (hs : a.eval s = v) (hx : a.eval x = xv)
    (hr : (Builtin.append_ #[t, u] o.type #[v, xv]).run P w = .ok r w') (h : wpList P ops Q rest (a.put o.dst r) w') : wpList P ops Q (o :: rest) a w := by
  refine wpList_plain hgd fun _ hK => ?_
  unfold Oper.wp execOp
  simp only [ho, resolve, invoke, builtin, Sem.run_bind, Sem.run_pure, Result.andThen_ok, List.map_toArray, List.map_cons, List.map_nil, hs, hx, hr]
  exact hK _ _ h

theorem flat_map1 (l : List UInt8) : flat l = l.map fun b => Value.int .u8 (b.toNat : Int) := by
  induction l with
  | nil => rfl
  | cons x l ih => rw [flat_cons, ih]; rfl
theorem flat_str (s : ByteArray) : flat s.data.toList = Go.Lib.strCells s := flat_map1 _

/-- A text's bytes appended to an own list. -/
theorem append_s {B : Nat} {a : Option Addr} {c : Nat} {xs : List UInt8} (s : ByteArray) {W : World} (hB : B ≤ W.heap.size) (hv : W.ownsRow B 5 1 (.slice a xs.length c) xs.length (flat xs)) (hlen : xs.length + s.size ≤ 2000000) :
    ∃ a' c' W', (Builtin.append_ #[22, 9] 22 #[.slice a xs.length c, .string s]).run Try.prog W = .ok (.slice a' (xs.length + s.size) c') W' ∧
      W'.ownsRow B 5 1 (.slice a' (xs ++ s.data.toList).length c') (xs ++ s.data.toList).length (flat (xs ++ s.data.toList)) ∧ W.grownBy W' (Value.slice a xs.length c).ownBlock := by
  obtain ⟨i0, hi, hz0, hz1, hz2⟩ := info_parts infoB
  obtain ⟨v', W', hr, hO, hg, _⟩ := Go.Lib.run_append_own_string (P := Try.prog) W B 22 9 22 5 i0 Try.underlying22 Try.underlying9 hi hz0 hz1 hz2 (.slice a xs.length c) xs.length (flat xs) hv s (by simp [maxLen]; omega) (by omega) hB
  obtain ⟨a', c', rfl, _⟩ := owns_form hO
  refine ⟨a', c', W', hr, ?_, hg⟩
  have e1 : (xs ++ s.data.toList).length = xs.length + s.size := by rw [List.length_append, Array.length_toList]; rfl
  have e2 : flat (xs ++ s.data.toList) = flat xs ++ Go.Lib.strCells s := by rw [flat_append, flat_str]
  rw [e1, e2]
  exact hO

set_option maxRecDepth 100000 in
set_option maxHeartbeats 1000000 in
theorem text_any (B b : Nat) (s : ByteArray) (xs : List UInt8) (hx : xs.length + s.size ≤ 1999980) (w : World) (hW : Wr B b w xs) :
    Calls Try.prog 41 #[.pointer (some ⟨b, 0, none⟩), .string s] w fun e w' => e = .returned (.tuple #[]) ∧ Turn B b w w' ∧ Wr B b w' (xs ++ (numB s.size ++ s.data.toList)) := by
  have hl0 := hidP (numB_le (n := s.size) (by omega))
  have HW := hidP hW
  clear hW
  go_enter Try.func41, Try.ntmps41
  go_wp2_with fail
  refine (number_any B b s.size (by omega) xs (by omega) _ HW.out).mono ?_
  rintro e w1 ⟨rfl, t1, hW1⟩
  obtain ⟨a, c, p, hv, hbB, hB⟩ := hW1
  have c0 := p.row1
  have q0 := p.lt
  have hl1 : (xs ++ numB s.size).length + s.size ≤ 2000000 := by have := hl0.out; rw [List.length_append]; omega
  generalize hys : xs ++ numB s.size = ys at *
  obtain ⟨a', c', W', hr, hO, hg⟩ := append_s s hB hv hl1
  have hbl := (Below.refl B w1).grown hg hB (fun j e => Nat.le_of_not_lt fun q => owns_far hv q e.symm)
  have p' := p.below hbl hbB
  have d0 := p'.row1
  have f0 := p'.thaw 0
  have HO := hidP hO
  have HT := hidP (t1.trans ((Turn.of_below (b := b) hbl).set 0 (.slice a' (ys.length + s.size) c')))
  have HP := hidP (p'.setAt 0 (.slice a' (ys.length + s.size) c'))
  have HB := hidP (Nat.le_trans hB hbl.size)
  have Hys := hidP hys
  clear hO hbl hv p p' t1 hg HW hys
  go_wp2_with (at_builtin; refine wpList_appS_is rfl _ _ _ _ rfl _ _ _ rfl rfl hr ?_)
  go_end0
  have e1 : (ys ++ s.data.toList).length = ys.length + s.size := by rw [List.length_append, Array.length_toList]; rfl
  refine ⟨rfl, HT.out, a', c', ?_⟩
  rw [← List.append_assoc, Hys.out]
  refine ⟨by rw [e1]; exact HP.out, owns_set HO.out (owns_far HO.out hbB), hbB, by simpa using HB.out⟩

end Go.Proofs.Ytjmaifmcoepfdaa.Gen
