/-
  Lists read by the program's reader: so many values one behind the other, as lists alone; what is under way. Condition: each value takes at least one byte.
-/
import Derived.Test.YtenhcjkkpnlbeaaGreatDoorNumP
import Derived.Test.YtenhcjkkpnlbeaaGreatDoorDkV
set_option linter.unusedVariables false
set_option linter.unusedSimpArgs false
set_option maxRecDepth 100000
set_option maxHeartbeats 8000000
namespace Go.Proofs.YtenhcjkkpnlbeaaGreatDoor.Gen
open ChangeShapes WideShapes ChangeAt RowKit Joins Deep Base
def Qbv {α : Type} (get : Int -> Option (α × Nat)) : Nat -> Nat -> Option (List α × Nat)
  | 0, c => some ([], c)
  | n + 1, c => match get (c : Int) with
    | none => none
    | some (x, d) => match Qbv get n d with
      | none => none
      | some (xs, e) => some (x :: xs, e)
def Qjx {α : Type} (xs : List α) (o : Option (List α × Nat)) : Option (List α × Nat) := o.map fun p => (xs ++ p.1, p.2)
theorem many_none {α : Type} {get : Int -> Option (α × Nat)} {n c : Nat} (xs : List α) (h : get (c : Int) = none) : Qjx xs (Qbv get (n + 1) c) = none := by simp [Qbv, h, Qjx]
theorem many_some {α : Type} {get : Int -> Option (α × Nat)} {n c d : Nat} {x : α} (xs : List α) (h : get (c : Int) = some (x, d)) : Qjx xs (Qbv get (n + 1) c) = Qjx (xs ++ [x]) (Qbv get n d) := by
 simp only [Qbv, h, Qjx]
 cases Qbv get n d with
 | none => rfl
 | some p => simp
theorem many_end {α : Type} (get : Int -> Option (α × Nat)) (c : Nat) (xs : List α) : Qjx xs (Qbv get 0 c) = some (xs, c) := by simp [Qbv, Qjx]
def isList {α : Type} [Cel α] (t : TypeId) (B : Nat) (xs : List α) (v : Value) (W : World) : Prop := ∃ a c, v = .slice a xs.length c /\ W.ownsRow B t (Cel.k α) (.slice a xs.length c) xs.length (flat xs)
theorem Rd.offp {S : Nat -> Prop} {W W' : World} {r : Nat} {A : Option Addr} {cap : Nat} {l : List UInt8} {i : Int} (h : Rd W r A cap l i) (k : Offp S W W') (hr : ¬ S r) (hA : l = [] ∨ ∀ c o, A = some ⟨c, o, none⟩ -> ¬ S c) : Rd W' r A cap l i := by
 refine ⟨h.box.offp k hr, ?_, h.i64⟩
 rcases hA with e | hA
 . exact .inl e
 . exact h.src.imp id fun ⟨c, o, e, hb, hn, hi⟩ => ⟨c, o, e, Nat.lt_of_lt_of_le hb k.size, hn, hi.offp k hb (hA c o e)⟩
theorem Rd.far' {W : World} {r : Nat} {A : Option Addr} {cap : Nat} {l : List UInt8} {i : Int} (h : Rd W r A cap l i) : r < W.heap.size /\ (l = [] ∨ ∀ c o, A = some ⟨c, o, none⟩ -> c < W.heap.size) := by
 refine ⟨h.box.lt, h.src.imp id fun ⟨b, o, e, hb, _⟩ c o' e' => ?_⟩
 rw [e] at e'
 cases e'
 exact hb
theorem Qck {B b : Nat} {W W' : World} {v : Value} {t : TypeId} {k n : Nat} {xs : List Value} (h : W.ownsRow B t k v n xs) (g : Only b W W') (hb : b < B) : W'.ownsRow B t k v n xs := by
 refine ⟨h.1, ?_⟩
 rcases h.2 with hz | ⟨c, c', cur, e, hB, hblk, hr⟩
 . exact .inl hz
 . subst e
   exact .inr ⟨c, c', cur, rfl, hB, (g.block c (Blk.lt (show Blk W c t cur from hblk)) (by omega)).trans hblk, hr⟩
theorem Qch {b : Nat} {S : Nat -> Prop} {w W W' : World} (h : Only b w W) (k : Offp S W W') (hS : ∀ x, S x -> w.heap.size <= x) : Only b w W' :=
 ⟨k.os.trans h.os, k.tape.trans h.tape, k.output.trans h.output, Nat.le_trans h.size k.size, fun i hi hb => (k.block i (Nat.lt_of_lt_of_le hi h.size) (fun e => by have := hS i e; omega)).trans (h.block i hi hb)⟩
structure RL {α : Type} [Cel α] (t : TypeId) (w W : World) (r : Nat) (A : Option Addr) (cap : Nat) (l : List UInt8) (c : Nat) (v : Value) (xs : List α) : Prop where
  rd : Rd W r A cap l (c : Int)
  only : Only r w W
  own : W.ownsRow w.heap.size t (Cel.k α) v xs.length (flat xs)
  lr : r < w.heap.size
  la : l = [] ∨ ∀ c o, A = some ⟨c, o, none⟩ -> c < w.heap.size
theorem RL.app {α : Type} [Cel α] {P : Program} {ts t : TypeId} {z : Value} {bytes : Nat} (hu : P.underlying ts = some (.slice t)) (hinfo : (P.info? t).map (fun i => (i.zero, i.size, i.bytes)) = some (some z, Cel.k α, bytes)) (hz : z.cells.size = Cel.k α) (hk : 0 < Cel.k α) (hby : bytes <= 1000)
 {w W W1 : World} {r : Nat} {A : Option Addr} {cap : Nat} {l : List UInt8} {c d : Nat} {a : Option Addr} {cp : Nat} {xs : List α} (h : RL t w W r A cap l c (.slice a xs.length cp) xs) (o : Only r W W1) (h1 : Rd W1 r A cap l (d : Int)) (x : α) (cs : Array Value) (hcs : cs.toList = Cel.cs x) (hx : xs.length <= 2000000) :
 ∃ a2 c2 W2, (Builtin.append_ #[ts, ts] ts #[.slice a xs.length cp, .slice (some ⟨W1.heap.size, 0, none⟩) 1 1]).run P (W1.alloc (.cells cs t)) = .ok (.slice a2 (xs.length + 1) c2) W2 /\ RL t w W2 r A cap l d (.slice a2 (xs.length + 1) c2) (xs ++ [x]) := by
 have hlr := h.lr
 have hw1 : w.heap.size <= W1.heap.size := Nat.le_trans h.only.size o.size
 have own1 := Qdi (Qck h.own o hlr) (.cells cs t)
 have hX : At (W1.alloc (.cells cs t)) (some ⟨W1.heap.size, 0, none⟩) [x] := by
  refine .inr ⟨_, 0, rfl, by simp, fun j u hu => ?_⟩
  rw [Qce, ← hcs] at hu
  rw [Nat.zero_add]
  exact (Blk.new W1 t cs).cell (by simpa using hu)
 obtain ⟨v', W2, hr, hown, hgrow, _⟩ := Qco (P := P) hu hinfo hz hk hby w.heap.size (.slice a xs.length cp) xs [x] (some ⟨W1.heap.size, 0, none⟩) 1 _ (by simp; omega) own1 hX (by simp; omega)
 simp only [List.length_cons, List.length_nil, Nat.zero_add] at hown hr
 obtain ⟨a2, c2, rfl, _⟩ := Qb2 hown
 have ko := Qdk hgrow
 have hS : ∀ y, (Value.slice a xs.length cp).ownBlock = some y -> w.heap.size <= y := fun y hy => (own1.lt y hy).1
 refine ⟨a2, c2, W2, hr, ⟨?_, ?_, owns_n (by simp) hown, h.lr, h.la⟩⟩
 . exact (h1.below (Qab (Below.refl _ _) _)).offp ko (fun e => by have := hS _ e; omega) (h.la.imp id fun f c o e e' => by have := f c o e; have := hS _ e'; omega)
 . exact Qch ((Qao h.only o).below (Qab (Below.refl _ _) _)) ko hS
def Qdq {α : Type} (l : List UInt8) (get : Int -> Option (α × Nat)) (i : Int) : Option (List α × Nat) := match getN l i with | none => none | some (n, c) => Qbv get n c
theorem Qis {α : Type} {l : List UInt8} {get : Int -> Option (α × Nat)} (hget : ∀ (i : Nat) x c, get (i : Int) = some (x, c) -> i < c /\ c <= l.length) : ∀ (n c : Nat) {xs : List α} {d : Nat}, c <= l.length -> Qbv get n c = some (xs, d) -> xs.length = n /\ c + n <= d /\ d <= l.length
 | 0, c, xs, d, hc, h => by
  simp only [Qbv, Option.some.injEq, Prod.mk.injEq] at h
  obtain ⟨rfl, rfl⟩ := h
  exact ⟨rfl, Nat.le_refl _, hc⟩
 | n + 1, c, xs, d, hc, h => by
  simp only [Qbv] at h
  cases hx : get (c : Int) with
  | none => simp [hx] at h
  | some p =>
  obtain ⟨x, e⟩ := p
  have h1 := hget c x e hx
  simp only [hx] at h
  cases hy : Qbv get n e with
  | none => simp [hy] at h
  | some q =>
  obtain ⟨ys, f⟩ := q
  have h2 := Qis hget n e h1.2 hy
  simp only [hy, Option.some.injEq, Prod.mk.injEq] at h
  obtain ⟨rfl, rfl⟩ := h
  simp only [List.length_cons]
  omega
theorem Qit {α : Type} {l : List UInt8} {get : Int -> Option (α × Nat)} (hget : ∀ (i : Nat) x c, get (i : Int) = some (x, c) -> i < c /\ c <= l.length) {i : Int} {xs : List α} {d : Nat} (h : Qdq l get i = some (xs, d)) : i < (d : Int) /\ d <= l.length /\ xs.length <= l.length := by
 unfold Qdq at h
 cases hx : getN l i with
 | none => simp [hx] at h
 | some p =>
 obtain ⟨n, c⟩ := p
 have h1 := Qbw hx
 simp only [hx] at h
 have h2 := Qis hget n c h1.2.2.2.1 h
 omega
theorem isList.mono {α : Type} [Cel α] {t : TypeId} {B B' : Nat} {xs : List α} {v : Value} {W : World} (h : isList t B xs v W) (hB : B' <= B) : isList t B' xs v W := by
 obtain ⟨a, c, rfl, ho⟩ := h
 refine ⟨a, c, rfl, ho.1, ?_⟩
 rcases ho.2 with hz | ⟨b, c', cur, e, hb, hblk, hr⟩
 . exact .inl hz
 . exact .inr ⟨b, c', cur, e, Nat.le_trans hB hb, hblk, hr⟩
end Go.Proofs.YtenhcjkkpnlbeaaGreatDoor.Gen
namespace Go.Proofs.YtenhcjkkpnlbeaaGreatDoor.Gen
open ChangeShapes WideShapes ChangeAt RowKit Joins Deep Base
def sumStep (p : Nat × Nat) (b : UInt8) : Nat × Nat := ((p.1 + b.toNat) % 65521, (p.2 + (p.1 + b.toNat) % 65521) % 65521)
def sumP (l : List UInt8) : Nat × Nat := l.foldl sumStep (1, 0)
def sumN (l : List UInt8) : Nat := (sumP l).2 * 65536 + (sumP l).1
theorem sumP_take {l : List UInt8} {n : Nat} (h : n < l.length) : sumP (l.take (n + 1)) = sumStep (sumP (l.take n)) l[n] := by
 unfold sumP
 rw [List.take_succ_eq_append_getElem h, List.foldl_append]
 rfl
theorem Qmw (A : Option Addr) (cap : Nat) (l : List UInt8) (hl : l.length <= 3000000) (w : World) (hA : At w A l) :
 Calls Tryz.prog 203 #[.slice A l.length cap] w fun e w' => e = .returned (.int .i64 (sumN l : Int)) /\ w' = w := by
 have HA := hidP hA
 clear hA
 go_enter Tryz.func203, Tryz.ntmps203
 go_wp2
 go_loopw [3, 4, 9] (fun vx vy vi W => ∃ (n x y : Nat), vi = .int .i64 (n : Int) /\ vx = .int .i64 (x : Int) /\ vy = .int .i64 (y : Int) /\ n <= l.length /\ x < 65521 /\ y < 65521 /\ Hid (sumP (l.take n) = (x, y)) /\ W = w) (fun _ _ vi _ => l.length - (intOf vi).toNat)
 case atStart => exact ⟨0, 1, 0, rfl, rfl, rfl, by omega, by omega, by omega, rfl, rfl⟩
 case round =>
  obtain ⟨n, x, y, rfl, rfl, rfl, hn, hx, hy, hs, rfl⟩ := hrel
  by_cases hlt : n < l.length
  . obtain ⟨b, o, rfl, hbs, hIn⟩ : ∃ b o, A = some ⟨b, o, none⟩ /\ b < wr.heap.size /\ In wr b o l := by
     rcases HA.out with h | h
     . subst h; simp at hlt
     . exact h
    have c0 := hIn.getB n hlt
    have hst : Hid (sumP (l.take (n + 1)) = ((x + l[n].toNat) % 65521, (y + (x + l[n].toNat) % 65521) % 65521)) := by show _ = _; rw [sumP_take hlt, hs.out]; rfl
    have hd2 : (l[n]).toNat < 256 := (l[n]).toNat_lt
    generalize (l[n]).toNat = d at *
    clear hIn hs
    go_wp2
    refine ⟨⟨n + 1, (x + d) % 65521, (y + (x + d) % 65521) % 65521, by go_num, ?_, ?_, by omega, by omega, by omega, hst, trivial⟩, by simp [intOf]; omega⟩
    . show Value.int .i64 _ = Value.int .i64 _
      congr 1
    . show Value.int .i64 _ = Value.int .i64 _
      congr 1
  . have e : l.take n = l := List.take_of_length_le (by omega)
    have hs' : Hid ((sumN l : Int) = (y : Int) * 65536 + (x : Int)) := by
     show _ = _
     have h := hs.out
     rw [e] at h
     unfold sumN
     rw [h]
     simp
    go_wp2
    go_ret
    exact ⟨by rw [hs'.out]; rfl, rfl⟩
end Go.Proofs.YtenhcjkkpnlbeaaGreatDoor.Gen
namespace Go.Proofs.YtenhcjkkpnlbeaaGreatDoor.Gen
open ChangeShapes WideShapes ChangeAt RowKit Joins Deep Base
def part (l : List UInt8) (c : Nat) : Nat -> Nat
  | 0 => 0
  | k + 1 => part l c k + (l.getD (c + k) 0).toNat * 256 ^ k
def Qjj (l : List UInt8) (c : Nat) : Option (Nat × Nat) := if c + 4 <= l.length then some (part l c 4, c + 4) else none
theorem part_lt (l : List UInt8) (c : Nat) : ∀ k, part l c k < 256 ^ k
 | 0 => by simp [part]
 | k + 1 => by
  have h := part_lt l c k
  have hd : (l.getD (c + k) 0).toNat <= 255 := by have := (l.getD (c + k) 0).toNat_lt; omega
  have h2 := Nat.mul_le_mul_right (256 ^ k) hd
  simp only [part]
  rw [Nat.pow_succ]
  omega
theorem rsum_any (r : Nat) (A : Option Addr) (cap : Nat) (l : List UInt8) (c : Nat) (hl : l.length <= 1048576) (w : World) (h : Rd w r A cap l (c : Int)) :
 Calls Tryz.prog 202 #[.pointer (some ⟨r, 0, none⟩)] w fun e w' => Qfw isNum r A cap l w e w' (Qjj l c) := by
 have HR := hidP h
 clear h
 go_enter Tryz.func202, Tryz.ntmps202
 go_wp2
 go_loopw [3, 4, 5] (fun v3 v4 v5 W => ∃ (k : Nat), v3 = .int .i64 (part l c k : Int) /\ v4 = .int .i64 ((256 ^ k : Nat) : Int) /\ v5 = .int .i64 (k : Int) /\ k <= 4 /\ Hid (k = 0 ∨ c + k <= l.length) /\ Hid (Only r w W) /\ Hid (Rd W r A cap l ((c + k : Nat) : Int))) (fun _ _ v5 _ => 4 - (intOf v5).toNat)
 case atStart => exact ⟨0, rfl, rfl, rfl, by omega, .inl rfl, Only.refl _ _, HR⟩
 case round =>
  obtain ⟨k, rfl, rfl, rfl, hk, hck, hO, hR⟩ := hrel
  by_cases h4 : k < 4
  . have h4' : (k : Int) < 4 := by omega
    by_cases hp : c + k < l.length
    . have hpl := part_lt l c k
      have hst : Hid (part l c (k + 1) = part l c k + (l[c + k]).toNat * 256 ^ k) := by show _ = _; simp [part, List.getD_eq_getElem?_getD, hp]
      have hck' : Hid (k + 1 = 0 ∨ c + (k + 1) <= l.length) := by show _ ∨ _; omega
      have hd2 : (l[c + k]).toNat < 256 := (l[c + k]).toNat_lt
      go_wp2_with fail
      refine (next_any r A cap l (c + k) hp hl _ hR.out).mono ?_
      rintro e w1 ⟨rfl, o1, r1⟩
      generalize (l[c + k]).toNat = d at *
      have hO1 := hidP (Qao hO.out o1)
      have hR1 : Hid (Rd w1 r A cap l ((c + (k + 1) : Nat) : Int)) := r1
      clear o1 r1 hR hO
      generalize part l c k = N at *
      obtain rfl | rfl | rfl | rfl : k = 0 ∨ k = 1 ∨ k = 2 ∨ k = 3 := by omega
      . have hst1 : part l c 1 = N + d * 1 := hst.out
        have hck1 : Hid (1 = 0 ∨ c + 1 <= l.length) := hck'
        have Hst := hidP hst1
        simp only [Nat.reducePow] at hpl ⊢
        clear hst hst1
        go_wp2
        refine ⟨⟨1, ?_, ?_, rfl, by omega, hck1, hO1, hR1⟩, by simp [intOf]⟩
        . show Value.int .i64 _ = Value.int .i64 _
          congr 1
          have := Hst.out
          omega
        . rfl
      . have hst1 : part l c 2 = N + d * 256 := hst.out
        have hck1 : Hid (2 = 0 ∨ c + 2 <= l.length) := hck'
        have Hst := hidP hst1
        simp only [Nat.reducePow] at hpl ⊢
        clear hst hst1
        go_wp2
        refine ⟨⟨2, ?_, ?_, rfl, by omega, hck1, hO1, hR1⟩, by simp [intOf]⟩
        . show Value.int .i64 _ = Value.int .i64 _
          congr 1
          have := Hst.out
          omega
        . rfl
      . have hst1 : part l c 3 = N + d * 65536 := hst.out
        have hck1 : Hid (3 = 0 ∨ c + 3 <= l.length) := hck'
        have Hst := hidP hst1
        simp only [Nat.reducePow] at hpl ⊢
        clear hst hst1
        go_wp2
        refine ⟨⟨3, ?_, ?_, rfl, by omega, hck1, hO1, hR1⟩, by simp [intOf]⟩
        . show Value.int .i64 _ = Value.int .i64 _
          congr 1
          have := Hst.out
          omega
        . rfl
      . have hst1 : part l c 4 = N + d * 16777216 := hst.out
        have hck1 : Hid (4 = 0 ∨ c + 4 <= l.length) := hck'
        have Hst := hidP hst1
        simp only [Nat.reducePow] at hpl ⊢
        clear hst hst1
        go_wp2
        refine ⟨⟨4, ?_, ?_, rfl, by omega, hck1, hO1, hR1⟩, by simp [intOf]⟩
        . show Value.int .i64 _ = Value.int .i64 _
          congr 1
          have := Hst.out
          omega
        . rfl
    . have hN : Hid (Qjj l c = none) := by show _ = _; unfold Qjj; rw [if_neg (by omega)]
      go_wp2_with fail
      refine (Qkq r A cap l _ (by omega) hl _ hR.out).mono ?_
      rintro e w1 ⟨rfl, o1⟩
      refine ⟨rfl, ?_⟩
      rw [hN.out]
      exact ⟨Qao hO.out o1, _, _, rfl⟩
  . obtain rfl : k = 4 := by omega
    have hN : Hid (Qjj l c = some (part l c 4, c + 4)) := by show _ = _; unfold Qjj; rw [if_pos (by have := hck.out; omega)]
    generalize part l c 4 = N at *
    go_wp2
    go_ret
    rw [hN.out]
    exact ⟨hO.out, hR.out, _, rfl, rfl⟩
def Qf3 (l : List UInt8) (i : Int) : Option (List UInt8 × Nat) := match getT l i with
  | none => none
  | some (s, c) => match Qjj l c with
    | none => none
    | some (n, d) => if n = sumN s.data.toList then some (s.data.toList, d) else none
def isBy (B : Nat) (L : List UInt8) (v : Value) (W : World) : Prop := ∃ b c, v = .slice (some ⟨b, 0, none⟩) L.length c /\ B <= b /\ b < W.heap.size /\ In W b 0 L /\ L.length <= c /\ c <= 9223372036854775807
theorem isBy.only {B r : Nat} {L : List UInt8} {v : Value} {W W' : World} (h : isBy B L v W) (g : Only r W W') (hr : r < B) : isBy B L v W' := by
 obtain ⟨b, c, e, h1, h2, h3, h4, h5⟩ := h
 exact ⟨b, c, e, h1, Nat.lt_of_lt_of_le h2 g.size, fun j u hu => (g.cell (p := ⟨b, 0 + j, none⟩) h2 (by show b ≠ r; omega)).trans (h3 j u hu), h4, h5⟩
theorem isBy.below {B : Nat} {L : List UInt8} {v : Value} {W W' : World} (h : isBy B L v W) (g : Below W.heap.size W W') : isBy B L v W' := by
 obtain ⟨b, c, e, h1, h2, h3, h4, h5⟩ := h
 exact ⟨b, c, e, h1, Nat.lt_of_lt_of_le h2 g.size, h3.below h2 g, h4, h5⟩
theorem getFr_le {l : List UInt8} {i : Int} {L : List UInt8} {c : Nat} (h : Qf3 l i = some (L, c)) : i < (c : Int) /\ c <= l.length /\ L.length <= l.length := by
 unfold Qf3 at h
 cases hx : getT l i with
 | none => simp [hx] at h
 | some p =>
 obtain ⟨s, c1⟩ := p
 have h1 := Qd9 hx
 simp only [hx] at h
 unfold Qjj at h
 by_cases h4 : c1 + 4 <= l.length
 . rw [if_pos h4] at h
   simp only at h
   split at h
   . simp only [Option.some.injEq, Prod.mk.injEq] at h
     obtain ⟨rfl, rfl⟩ := h
     have e : s.data.toList.length = s.size := by rw [Array.length_toList]; rfl
     omega
   . cases h
 . rw [if_neg h4] at h
   cases h
theorem Qmf (r : Nat) (A : Option Addr) (cap : Nat) (l : List UInt8) (i : Int) (hl : l.length <= 1048576) (hcap : l.length <= cap) (hcm : cap <= 9223372036854775807) (w : World) (h : Rd w r A cap l i) :
 Calls Tryz.prog 179 #[.pointer (some ⟨r, 0, none⟩)] w fun e w' => Qfw (isBy w.heap.size) r A cap l w e w' (Qf3 l i) := by
 obtain ⟨hr, hfar⟩ := h.far'
 have HR := hidP h
 clear h
 go_enter Tryz.func179, Tryz.ntmps179
 go_wp2_with fail
 refine (Qd5 r A cap l i hl hcap hcm _ HR.out).mono ?_
 intro e w1 h1
 cases hx : getT l i with
 | none =>
  have hN : Qf3 l i = none := by simp [Qf3, hx]
  rw [hx] at h1
  obtain ⟨o1, t, v, rfl⟩ := h1
  refine ⟨rfl, ?_⟩
  rw [hN]
  exact ⟨o1, t, v, rfl⟩
 | some x =>
 obtain ⟨s, c⟩ := x
 rw [hx] at h1
 obtain ⟨o1, r1, v, rfl, rfl⟩ := h1
 have hle := Qd9 hx
 have hcv := Go.Lib.run_convert_string_bytes (P := Tryz.prog) w1 9 52 5 s Tryz.underlying9 Tryz.underlying52 Tryz.underlying5
 have hbb := Qnd w1 5 s
 have hat := bytes_at w1 5 s
 have hsz2 := Go.Lib.bytesWorld_size w1 5 s
 have hge := grownCap_ge w1 s.size 0 5
 have hgm := grownCap_le_maxLen w1 s.size 0 5 (by simp [maxLen]; omega)
 generalize Go.Lib.bytesWorld w1 5 s = w2 at *
 generalize grownCap w1 s.size 0 5 = gc at *
 have hlen : s.data.toList.length = s.size := by rw [Array.length_toList]; rfl
 have HB : Hid (isBy w.heap.size s.data.toList (.slice (some ⟨w1.heap.size, 0, none⟩) s.size gc) w2) := by
  refine ⟨w1.heap.size, gc, by rw [hlen], o1.size, by omega, ?_, by omega, by simpa [maxLen] using hgm⟩
  rcases hat with e | ⟨b, o, e, hb, hi⟩
  . rw [e]; exact fun j v hv => by simp [flat] at hv
  . cases e; exact hi
 have HO2 := hidP (o1.below hbb)
 have HR2 := hidP (r1.below hbb)
 have hS : Hid (Qf3 l i = match Qjj l c with | none => none | some (n, d) => if n = sumN s.data.toList then some (s.data.toList, d) else none) := by show _ = _; simp [Qf3, hx]
 clear o1 r1 hat hbb HR hge hgm hx
 go_wp2_with fail
 refine (rsum_any r A cap l c hl _ HR2.out).mono ?_
 intro e w3 h3
 cases hx : Qjj l c with
 | none =>
  have hN : Qf3 l i = none := by rw [hS.out, hx]
  rw [hx] at h3
  obtain ⟨o3, t, v, rfl⟩ := h3
  refine ⟨rfl, ?_⟩
  rw [hN]
  exact ⟨Qao HO2.out o3, t, v, rfl⟩
 | some x =>
 obtain ⟨n, d⟩ := x
 rw [hx] at h3
 obtain ⟨o3, r3, v, rfl, rfl⟩ := h3
 rw [hx] at hS
 replace hS : Hid (Qf3 l i = if n = sumN s.data.toList then some (s.data.toList, d) else none) := hS
 have HB3 := hidP (HB.out.only o3 hr)
 have HO3 := hidP (Qao HO2.out o3)
 have HR3 := hidP r3
 have hat3 : Hid (At w3 (some ⟨w1.heap.size, 0, none⟩) s.data.toList) := by
  obtain ⟨b, c', e, _, hb, hi, _⟩ := HB3.out
  simp only [Value.slice.injEq, Option.some.injEq, Addr.mk.injEq, and_true] at e
  obtain ⟨e1, _⟩ := e
  subst e1
  exact .inr ⟨_, _, rfl, hb, hi⟩
 have hlen3 : s.data.toList.length <= 3000000 := by omega
 have hSum := hidP (Qmw (some ⟨w1.heap.size, 0, none⟩) gc s.data.toList hlen3 _ hat3.out)
 rw [hlen] at hSum
 clear o3 r3 HB HO2 HR2 hcv hx
 go_wp2_with fail
 refine hSum.out.mono ?_
 rintro e w4 ⟨rfl, rfl⟩
 clear hSum hat3
 generalize sumN s.data.toList = N at *
 by_cases hn : n = N
 . subst hn
   rw [if_pos rfl] at hS
   go_wp2
   go_ret
   rw [hS.out]
   exact ⟨HO3.out, HR3.out, _, rfl, HB3.out⟩
 . rw [if_neg hn] at hS
   have hn' : ¬ ((n : Int) = (N : Int)) := by omega
   go_wp2
   refine ⟨rfl, ?_⟩
   rw [hS.out]
   exact ⟨HO3.out, _, _, rfl⟩
end Go.Proofs.YtenhcjkkpnlbeaaGreatDoor.Gen
namespace Go.Proofs.YtenhcjkkpnlbeaaGreatDoor.Gen
open ChangeShapes WideShapes ChangeAt RowKit Joins Deep Base
theorem Qhj (p : Addr) (x : Value) (u : TypeId) (pv : Value) (older : List PanicEntry) (w : World) (hc : w.cell? p = some x) (hz : w.frozen? p = false) :
 CallsD Tryz.prog 222 #[.pointer (some p)] (.panicking ({ v := .iface u pv, recovered := false } :: older)) w fun e u' w' =>
  e = .returned (.tuple #[]) /\ u' = .panicking ({ v := .iface u pv, recovered := true } :: older) /\ w' = w.setCell p (.bool false) := by
 refine callsD_of_wpS Tryz.func222 rfl fun c₀ cs hu => ?_
 apply wpS_region
 simp [wpOpsS, go_sem, recoverD, hu, Tryz.ntmps222, hc, hz, bodyPostS, results, Tryz.results222]
theorem catch_idle (p : Addr) (x : Value) (w : World) (hc : w.cell? p = some x) (hz : w.frozen? p = false) :
 CallsD Tryz.prog 222 #[.pointer (some p)] .returning w fun e u' w' => e = .returned (.tuple #[]) /\ u' = .returning /\ w' = w.setCell p (.bool true) := by
 refine callsD_of_wpS Tryz.func222 rfl fun c₀ cs hu => ?_
 apply wpS_region
 simp [wpOpsS, go_sem, recoverD, hu, Tryz.ntmps222, hc, hz, bodyPostS, results, Tryz.results222]
 cases c₀
 simp_all
theorem Qj1 (f : FuncId) (cap : Array Value) (w : World) (R S : World -> Prop) (hcf : ∀ W : World, (callFunc f cap).run Tryz.prog W = .ok (.enter f cap) W)
 (h : Calls Tryz.prog f cap (w.alloc (.cells #[.bool false] 4)) fun e W => Blk W w.heap.size 4 #[.bool false] /\ ((e = .returned (.tuple #[]) /\ R W) ∨ (∃ t v, e = .panicked [{ v := .iface t v, recovered := false }] /\ S W))) :
 Calls Tryz.prog 199 #[.func (.func f) #[] cap] w fun e W => ∃ W0, Only w.heap.size W0 W /\ ((e = .returned (.bool true) /\ R W0) ∨ (e = .returned (.bool false) /\ S W0)) := by
 have hmf : ∀ (fn : Fn) (first cap : Array Value) (w : World), (Instr.makeFunc fn first cap).run Tryz.prog w = .ok (.func fn first cap) w := fun _ _ _ _ => rfl
 have HH := hidP h
 clear h
 go_enter_defers Tryz.func199, Tryz.ntmps199
 go_wp2_with fail
 refine HH.out.mono ?_
 rintro e W ⟨p, h⟩
 have c0 := p.row1
 have f0 := p.thaw 0
 have q0 := p.lt
 have c1 := (p.setAt 0 (.bool true)).row1
 have f1 := (p.setAt 0 (.bool true)).thaw 0
 rcases h with ⟨rfl, hR⟩ | ⟨t, v, rfl, hS⟩
 . go_wp2
   refine leaves_cons (f := 222) (args := #[.pointer (some ⟨w.heap.size, 0, none⟩)]) (by simp) (by simp [go_sem]) ?_
   refine (catch_idle ⟨w.heap.size, 0, none⟩ _ _ c1 f1).mono ?_
   rintro e u' w'' ⟨rfl, rfl, rfl⟩
   have c2 := ((p.setAt 0 (.bool true)).setAt 0 (.bool true)).row1
   refine ⟨.bool true, ?_, W, ((Only.refl _ _).set 0 _).set 0 _, .inl ⟨rfl, hR⟩⟩
   simp only [results, Tryz.results199]
   simp [go_sem, c2]
 . refine leaves_cons (f := 222) (args := #[.pointer (some ⟨w.heap.size, 0, none⟩)]) (by simp) (by simp [go_sem]) ?_
   refine (Qhj ⟨w.heap.size, 0, none⟩ _ t v [] _ c0 f0).mono ?_
   rintro e u' w'' ⟨rfl, rfl, rfl⟩
   have c2 := (p.setAt 0 (.bool false)).row1
   refine ⟨.bool false, ?_, W, (Only.refl _ _).set 0 _, .inr ⟨rfl, hS⟩⟩
   simp only [results, Tryz.results199]
   simp [go_sem, c2]
end Go.Proofs.YtenhcjkkpnlbeaaGreatDoor.Gen
namespace Go.Proofs.YtenhcjkkpnlbeaaGreatDoor.Gen
open ChangeShapes WideShapes ChangeAt RowKit Joins Deep Base
theorem isBy.mono {B B' : Nat} {L : List UInt8} {v : Value} {W : World} (h : isBy B L v W) (hB : B' <= B) : isBy B' L v W := by
 obtain ⟨b, c, e, h1, h2⟩ := h
 exact ⟨b, c, e, Nat.le_trans hB h1, h2⟩
theorem Qi3 (o : Option (List UInt8 × Nat)) (f : FuncId) (cp : Array Value) (z y g r : Nat) (A : Option Addr) (cap : Nat) (l : List UInt8) (i : Int) (W : World)
 (hcf : ∀ (p : Value) (W : World), (callFunc f (#[p] ++ cp)).run Tryz.prog W = .ok (.enter f (#[p] ++ cp)) W)
 (pz : Blk W z 225 #[.func (.func f) #[] cp]) (py : Blk W y 227 #[.pointer (some ⟨r, 0, none⟩)]) (pg : Blk W g 52 #[.slice none 0 0]) (hgr : g ≠ r)
 (h : Calls Tryz.prog f (#[.pointer (some ⟨r, 0, none⟩)] ++ cp) W fun e W' => Qfw (isBy W.heap.size) r A cap l W e W' o) :
 Calls Tryz.prog 200 #[.pointer (some ⟨z, 0, none⟩), .pointer (some ⟨y, 0, none⟩), .pointer (some ⟨g, 0, none⟩)] W fun e W' =>
  (∃ x c bb cc W0, o = some (x, c) /\ isBy W.heap.size x (.slice (some ⟨bb, 0, none⟩) (List.length x) cc) W0 /\ e = .returned (.tuple #[]) /\ Only r W W0 /\ Rd W0 r A cap l (c : Int) /\ W' = (W0.setCell ⟨g, 0, none⟩ (.slice (some ⟨bb, 0, none⟩) (List.length x) cc))) ∨ (o = none /\ Only r W W' /\ ∃ t v, e = .panicked [{ v := .iface t v, recovered := false }]) := by
 have HH := hidP h
 have c0 := pz.row1
 have c1 := py.row1
 have HG := hidP pg
 clear h pz py pg
 go_enter Tryz.func200, Tryz.ntmps200
 go_wp2_with fail
 refine HH.out.mono ?_
 intro e W1 h1
 cases o with
 | none =>
  obtain ⟨o1, t, v, rfl⟩ := h1
  exact ⟨rfl, .inr ⟨rfl, o1, t, v, rfl⟩⟩
 | some x =>
  obtain ⟨x, c⟩ := x
  obtain ⟨o1, r1, v, rfl, hby⟩ := h1
  have HBy := hidP hby
  obtain ⟨bb, cc, rfl, _⟩ := hby
  have p1 := HG.out.only o1 hgr
  have d0 := p1.row1
  have f0 := p1.thaw 0
  have q0 := p1.lt
  have HO1 := hidP o1
  have HR1 := hidP r1
  clear o1 r1 p1 c0 c1
  go_wp2
  go_end0
  exact .inl ⟨x, c, bb, cc, W1, rfl, HBy.out, rfl, HO1.out, HR1.out, rfl⟩
theorem Qkd (o : Option (List UInt8 × Nat)) (f : FuncId) (cp : Array Value) (A : Option Addr) (cap : Nat) (l : List UInt8) (i : Int) (hi : I64 i) (w : World) (hA : At w A l)
 (hcf : ∀ (p : Value) (W : World), (callFunc f (#[p] ++ cp)).run Tryz.prog W = .ok (.enter f (#[p] ++ cp)) W)
 (h : ∀ W r, Below w.heap.size w W -> w.heap.size + 2 = r -> W.heap.size = w.heap.size + 5 -> Rd W r A cap l i -> Calls Tryz.prog f (#[.pointer (some ⟨r, 0, none⟩)] ++ cp) W fun e W' => Qfw (isBy W.heap.size) r A cap l W e W' o) :
 Calls Tryz.prog 178 #[.slice A l.length cap, .int .i64 i, .func (.func f) #[] cp] w fun e w' => Below w.heap.size w w' /\
  ((∃ x c bb cc, o = some (x, c) /\ isBy w.heap.size x (.slice (some ⟨bb, 0, none⟩) (List.length x) cc) w' /\ e = .returned (.tuple (l1SIB (some ⟨bb, 0, none⟩) (List.length x) cc (c : Int) true))) ∨ (o = none /\ e = .returned (.tuple l0SIB))) := by
 have hmf : ∀ (fn : Fn) (first cap : Array Value) (w : World), (Instr.makeFunc fn first cap).run Tryz.prog w = .ok (.func fn first cap) w := fun _ _ _ _ => rfl
 have hA' : At (((((w.alloc (.cells #[.func (.func f) #[] cp] 225)).alloc (.cells #[.slice none 0 0] 52)).alloc (.cells #[.slice A l.length cap, .int .i64 i] 267)).alloc (.cells #[.pointer (some ⟨w.heap.size + 1 + 1, 0, none⟩)] 227)).alloc (.cells #[.bool false] 4)) A l :=
  hA.below (Qab (Qab (Qab (Qab (Qab (Below.refl _ w) _) _) _) _) _)
 have hAlt : ∀ c o, A = some ⟨c, o, none⟩ -> l = [] ∨ c < w.heap.size := fun c o e => hA.imp id fun ⟨b, o', e', hb, _⟩ => by rw [e] at e'; cases e'; exact hb
 have hcf1 : ∀ W : World, (callFunc 200 #[.pointer (some ⟨w.heap.size, 0, none⟩), .pointer (some ⟨w.heap.size + 1 + 1 + 1, 0, none⟩), .pointer (some ⟨w.heap.size + 1, 0, none⟩)]).run Tryz.prog W = .ok (.enter 200 #[.pointer (some ⟨w.heap.size, 0, none⟩), .pointer (some ⟨w.heap.size + 1 + 1 + 1, 0, none⟩), .pointer (some ⟨w.heap.size + 1, 0, none⟩)]) W := fun W => by simp [go_sem]
 have pz := ((((Blk.new w 225 #[.func (.func f) #[] cp]).alloc (.cells #[.slice none 0 0] 52)).alloc (.cells #[.slice A l.length cap, .int .i64 i] 267)).alloc (.cells #[.pointer (some ⟨w.heap.size + 1 + 1, 0, none⟩)] 227)).alloc (.cells #[.bool false] 4)
 have pg := (((Blk.new (w.alloc (.cells #[.func (.func f) #[] cp] 225)) 52 #[.slice none 0 0]).alloc (.cells #[.slice A l.length cap, .int .i64 i] 267)).alloc (.cells #[.pointer (some ⟨w.heap.size + 1 + 1, 0, none⟩)] 227)).alloc (.cells #[.bool false] 4)
 have pr := ((Blk.new ((w.alloc (.cells #[.func (.func f) #[] cp] 225)).alloc (.cells #[.slice none 0 0] 52)) 267 #[.slice A l.length cap, .int .i64 i]).alloc (.cells #[.pointer (some ⟨w.heap.size + 1 + 1, 0, none⟩)] 227)).alloc (.cells #[.bool false] 4)
 have py := (Blk.new (((w.alloc (.cells #[.func (.func f) #[] cp] 225)).alloc (.cells #[.slice none 0 0] 52)).alloc (.cells #[.slice A l.length cap, .int .i64 i] 267)) 227 #[.pointer (some ⟨w.heap.size + 1 + 1, 0, none⟩)]).alloc (.cells #[.bool false] 4)
 have pd := Blk.new ((((w.alloc (.cells #[.func (.func f) #[] cp] 225)).alloc (.cells #[.slice none 0 0] 52)).alloc (.cells #[.slice A l.length cap, .int .i64 i] 267)).alloc (.cells #[.pointer (some ⟨w.heap.size + 1 + 1, 0, none⟩)] 227)) 4 #[.bool false]
 have hbl := Qab (Qab (Qab (Qab (Qab (Below.refl _ w) (.cells #[.func (.func f) #[] cp] 225)) (.cells #[.slice none 0 0] 52)) (.cells #[.slice A l.length cap, .int .i64 i] 267)) (.cells #[.pointer (some ⟨w.heap.size + 1 + 1, 0, none⟩)] 227)) (.cells #[.bool false] 4)
 simp only [World.size_alloc] at pg pr py pd
 generalize hW5 : (((((w.alloc (.cells #[.func (.func f) #[] cp] 225)).alloc (.cells #[.slice none 0 0] 52)).alloc (.cells #[.slice A l.length cap, .int .i64 i] 267)).alloc (.cells #[.pointer (some ⟨w.heap.size + 1 + 1, 0, none⟩)] 227)).alloc (.cells #[.bool false] 4)) = W5 at *
 have s5 : W5.heap.size = w.heap.size + 5 := by rw [← hW5]; simp
 have hrd : Rd W5 (w.heap.size + 1 + 1) A cap l i := ⟨pr, by
  rcases hA' with h | ⟨b, o, e, hb, hi⟩
  . exact .inl h
  . rcases hAlt b o e with h | h
    . exact .inl h
    . exact .inr ⟨b, o, e, hb, by omega, hi⟩, hi⟩
 have hdo := Qi3 o f cp w.heap.size (w.heap.size + 1 + 1 + 1) (w.heap.size + 1) (w.heap.size + 1 + 1) A cap l i W5 hcf pz py pg (by omega) (h W5 _ hbl rfl s5 hrd)
 have htr := Qj1 200 #[.pointer (some ⟨w.heap.size, 0, none⟩), .pointer (some ⟨w.heap.size + 1 + 1 + 1, 0, none⟩), .pointer (some ⟨w.heap.size + 1, 0, none⟩)] ((((w.alloc (.cells #[.func (.func f) #[] cp] 225)).alloc (.cells #[.slice none 0 0] 52)).alloc (.cells #[.slice A l.length cap, .int .i64 i] 267)).alloc (.cells #[.pointer (some ⟨w.heap.size + 1 + 1, 0, none⟩)] 227))
  (fun W' => ∃ x c bb cc W0, o = some (x, c) /\ isBy W5.heap.size x (.slice (some ⟨bb, 0, none⟩) (List.length x) cc) W0 /\ Only (w.heap.size + 1 + 1) W5 W0 /\ Rd W0 (w.heap.size + 1 + 1) A cap l (c : Int) /\ W' = (W0.setCell ⟨w.heap.size + 1, 0, none⟩ (.slice (some ⟨bb, 0, none⟩) (List.length x) cc))) (fun W' => o = none /\ Only (w.heap.size + 1 + 1) W5 W') hcf1 (by
   rw [hW5]
   refine hdo.mono fun e W' h1 => ?_
   rcases h1 with ⟨x, c, bb, cc, W0, h1, hb, h2, h3, h4, rfl⟩ | ⟨h1, h2, t, v, rfl⟩
   . exact ⟨by simpa using (pd.only h3 (by omega)).other (by omega) 0 (.slice (some ⟨bb, 0, none⟩) (List.length x) cc), .inl ⟨h2, x, c, bb, cc, W0, h1, hb, h3, h4, rfl⟩⟩
   . exact ⟨by simpa using pd.only h2 (by omega), .inr ⟨t, v, rfl, h1, h2⟩⟩)
 have HT := hidP htr
 have Hpy := hidP py
 have Hpg := hidP pg
 have Hbl := hidP hbl
 have Hs5 := hidP s5
 clear htr hdo hrd pz pr pg pd h hcf hcf1 py hbl s5 hW5 hA'
 go_enter Tryz.func178, Tryz.ntmps178
 go_wp2_with fail
 refine HT.out.mono ?_
 rintro e W' ⟨W0, ho, hh⟩
 simp only [World.size_alloc] at ho
 rcases hh with ⟨rfl, x, c, bb, cc, W1, rfl, hb, o1, r1, rfl⟩ | ⟨rfl, rfl, o1⟩
 . have hfin : Hid (Below w.heap.size w W') := Hbl.out.trans ((o1.toBelow (by omega) (by have := Hs5.out; omega)).trans ((Qa7 (Below.refl _ _) (by omega) (.slice (some ⟨bb, 0, none⟩) (List.length x) cc)).trans (ho.toBelow (by omega) (by have := o1.size; have := Hs5.out; simp; omega))))
   have g' := ((Hpg.out.only o1 (by omega)).setAt 0 (.slice (some ⟨bb, 0, none⟩) (List.length x) cc)).only ho (by omega)
   have y' := ((Hpy.out.only o1 (by omega)).other (by omega) 0 (.slice (some ⟨bb, 0, none⟩) (List.length x) cc)).only ho (by omega)
   have r' := (r1.box.other (show w.heap.size + 1 + 1 ≠ w.heap.size + 1 by omega) 0 (.slice (some ⟨bb, 0, none⟩) (List.length x) cc)).only ho (by omega)
   have c0 := g'.row1
   have c1 := y'.row1
   obtain ⟨c2, c3⟩ := r'.row2
   have q0 := g'.lt
   have q1 := y'.lt
   have q2 := r'.lt
   have HBy := hidP (((hb.only ((Only.refl (w.heap.size + 1) W1).set 0 (.slice (some ⟨bb, 0, none⟩) (List.length x) cc)) (by have := Hs5.out; omega)).only ho (by have := Hs5.out; omega)).mono (B' := w.heap.size) (by have := Hs5.out; omega))
   clear ho g' y' r' o1 r1 hmf hb
   go_wp2_with fail
   go_quiet (fail)
   go_wp2
   exact bodyPost_ret (v := .tuple (l1SIB (some ⟨bb, 0, none⟩) (List.length x) cc (c : Int) true)) (by simp [results, Tryz.results178, go_sem]) rfl ⟨below_drewN hfin.out _, .inl ⟨x, c, bb, cc, rfl, HBy.out.below (below_drewN (Below.refl _ _) _), rfl⟩⟩
 . have hfin : Hid (Below w.heap.size w W') := Hbl.out.trans ((o1.toBelow (by omega) (by have := Hs5.out; omega)).trans (ho.toBelow (by omega) (by have := o1.size; have := Hs5.out; omega)))
   clear hmf
   go_wp2
   exact bodyPost_ret (v := .tuple l0SIB) (by simp [results, Tryz.results178, go_sem]) rfl ⟨hfin.out, rfl⟩
end Go.Proofs.YtenhcjkkpnlbeaaGreatDoor.Gen
