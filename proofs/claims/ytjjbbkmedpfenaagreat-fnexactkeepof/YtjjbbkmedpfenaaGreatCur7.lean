/-
  The specification's cursor over bytes: a number, a text, and what it is when there is none. Condition: at most 1048576 bytes.
-/
import Derived.Test.YtjjbbkmedpfenaaGreatRd
namespace Go.Proofs.YtjjbbkmedpfenaaGreat.Gen
open Go.ChangeShapes Go.WideShapes Go.ChangeAt Go.RowKit Go.Joins Go.Deep Base
set_option linter.unusedVariables false

/-- What is read where a place is, or nothing. -/
def nS (l : List UInt8) (o : Option Int) : Option (Nat × Nat) := o.bind (getN l)
def tS (l : List UInt8) (o : Option Int) : Option (ByteArray × Nat) := o.bind (getT l)
def nV (x : Option (Nat × Nat)) : Nat := (x.map Prod.fst).getD 0
def tV (x : Option (ByteArray × Nat)) : ByteArray := (x.map Prod.fst).getD ⟨#[]⟩
def nO {α : Type} (x : Option (α × Nat)) : Option Int := x.map fun p => (p.2 : Int)
theorem nV_le (l : List UInt8) (o : Option Int) : nV (nS l o) ≤ 2147483647 := by
  unfold nV nS
  cases o with
  | none => simp
  | some i =>
    cases h : getN l i with
    | none => simp [h]
    | some x => obtain ⟨n, c⟩ := x; simp [h]; exact (getN_le h).1

/-- The cursor at block r: it stands at a place, or nothing is right any more. -/
structure Cu (W : World) (r : Nat) (A : Option Addr) (cap : Nat) (l : List UInt8) (i : Int) (ok : Bool) (o : Option Int) : Prop where
  box : Blk W r 45 #[.slice A l.length cap, .int .i64 i, .bool ok]
  src : l = [] ∨ ∃ b o, A = some ⟨b, o, none⟩ ∧ b < W.heap.size ∧ b ≠ r ∧ In W b o l
  i64 : I64 i
  st : o = if ok = true then some i else none
theorem Cu.below {W W' : World} {r : Nat} {A : Option Addr} {cap : Nat} {l : List UInt8} {i : Int} {ok : Bool} {o : Option Int} (h : Cu W r A cap l i ok o) (g : Below W.heap.size W W') : Cu W' r A cap l i ok o :=
  ⟨h.box.below g h.box.lt, h.src.imp id fun ⟨b, o, e, hb, hn, hi⟩ => ⟨b, o, e, Nat.lt_of_lt_of_le hb g.size, hn, hi.below hb g⟩, h.i64, h.st⟩
theorem Cu.at {W : World} {r : Nat} {A : Option Addr} {cap : Nat} {l : List UInt8} {i : Int} {ok : Bool} {o : Option Int} (h : Cu W r A cap l i ok o) : At W A l := h.src.imp id fun ⟨b, o, e, hb, _, hi⟩ => ⟨b, o, e, hb, hi⟩
theorem Cu.src_set {W : World} {r : Nat} {A : Option Addr} {cap : Nat} {l : List UInt8} {i : Int} {ok : Bool} {o : Option Int} (h : Cu W r A cap l i ok o) (k : Nat) (v : Value) : l = [] ∨ ∃ b o, A = some ⟨b, o, none⟩ ∧ b < (W.setCell ⟨r, k, none⟩ v).heap.size ∧ b ≠ r ∧ In (W.setCell ⟨r, k, none⟩ v) b o l :=
  h.src.imp id fun ⟨b, o, e, hb, hn, hi⟩ => ⟨b, o, e, by simpa using hb, hn, hi.set _ _ (fun e => hn e.symm)⟩
theorem Cu.goto {W : World} {r : Nat} {A : Option Addr} {cap : Nat} {l : List UInt8} {i : Int} {o : Option Int} (h : Cu W r A cap l i true o) (j : Nat) (hj : I64 (j : Int)) : Cu (W.setCell ⟨r, 1, none⟩ (.int .i64 (j : Int))) r A cap l (j : Int) true (some (j : Int)) :=
  ⟨h.box.setAt 1 _, h.src_set 1 _, hj, rfl⟩
theorem Cu.stop {W : World} {r : Nat} {A : Option Addr} {cap : Nat} {l : List UInt8} {i : Int} {ok : Bool} {o : Option Int} (h : Cu W r A cap l i ok o) : Cu (W.setCell ⟨r, 2, none⟩ (.bool false)) r A cap l i false none :=
  ⟨h.box.setAt 2 _, h.src_set 2 _, h.i64, rfl⟩
theorem Cu.drewN {W : World} {r : Nat} {A : Option Addr} {cap : Nat} {l : List UInt8} {i : Int} {ok : Bool} {o : Option Int} (h : Cu W r A cap l i ok o) (n : Nat) : Cu (W.drewN n) r A cap l i ok o := h.below (below_drewN (Below.refl _ _) n)

/-- The cursor, wherever it stands. -/
def CuO (W : World) (r : Nat) (A : Option Addr) (cap : Nat) (l : List UInt8) (o : Option Int) : Prop := ∃ i ok, Cu W r A cap l i ok o

set_option maxRecDepth 100000 in
set_option maxHeartbeats 2000000 in
theorem l7Num_any (r : Nat) (A : Option Addr) (cap : Nat) (l : List UInt8) (hl : l.length ≤ 1048576) (o : Option Int) (w : World) (h : CuO w r A cap l o) :
    Calls Tryz.prog 36 #[.pointer (some ⟨r, 0, none⟩)] w fun e w' => e = .returned (.int .i64 (nV (nS l o) : Int)) ∧ Only r w w' ∧ CuO w' r A cap l (nO (nS l o)) := by
  obtain ⟨i, ok, hc⟩ := h
  obtain ⟨c0, c1, c2⟩ := hc.box.row3
  have f1 := hc.box.thaw 1
  have f2 := hc.box.thaw 2
  have q0 := hc.box.lt
  have hst := hc.st
  have HC := hidP hc
  have HG := hidP (fun W (hA : At W A l) => specGetNum_any A cap l hl i hc.i64 W hA)
  have HAt := hidP hc.at
  clear hc
  cases hg : getN l i with
  | none =>
    have hn : Hid (nS l o = none) := by show _ = _; rw [hst]; unfold nS; split <;> simp [hg]
    rw [hg] at HG
    simp only [numT] at HG
    clear hst
    go_enter Tryz.func36, Tryz.ntmps36
    go_wp2_with fail
    go_quiet (first | (go_at_call 79; refine Calls.quiet_of_same (HG.out _ (HAt.out.below (below_drewN (Below.refl _ _) _)))))
    go_wp2
    go_ret
    rw [hn.out]
    exact ⟨rfl, (only_drewN (Only.refl _ _) _).set _ _, i, false, (HC.out.drewN _).stop⟩
  | some x =>
    obtain ⟨n, c⟩ := x
    rw [hg] at HG
    simp only [numT] at HG
    have hle := getN_le hg
    cases ok with
    | false =>
      have hn : Hid (nS l o = none) := by show _ = _; rw [hst]; rfl
      clear hst
      go_enter Tryz.func36, Tryz.ntmps36
      go_wp2_with fail
      go_quiet (first | (go_at_call 79; refine Calls.quiet_of_same (HG.out _ (HAt.out.below (below_drewN (Below.refl _ _) _)))))
      go_wp2
      go_ret
      rw [hn.out]
      exact ⟨rfl, (only_drewN (Only.refl _ _) _).set _ _, i, false, (HC.out.drewN _).stop⟩
    | true =>
      have hn : Hid (nS l o = some (n, c)) := by show _ = _; rw [hst]; unfold nS; simp [hg]
      have hc64 : Hid (I64 (c : Int)) := hidP ⟨by omega, by omega⟩
      clear hst hle
      go_enter Tryz.func36, Tryz.ntmps36
      go_wp2_with fail
      go_quiet (first | (go_at_call 79; refine Calls.quiet_of_same (HG.out _ (HAt.out.below (below_drewN (Below.refl _ _) _)))))
      go_wp2
      go_ret
      rw [hn.out]
      exact ⟨rfl, (only_drewN (Only.refl _ _) _).set _ _, (c : Int), true, (HC.out.drewN _).goto c hc64.out⟩

set_option maxRecDepth 100000 in
set_option maxHeartbeats 2000000 in
theorem l7Text_any (r : Nat) (A : Option Addr) (cap : Nat) (l : List UInt8) (hl : l.length ≤ 1048576) (hcap : l.length ≤ cap) (hcm : cap ≤ 9223372036854775807) (o : Option Int) (w : World) (h : CuO w r A cap l o) :
    Calls Tryz.prog 40 #[.pointer (some ⟨r, 0, none⟩)] w fun e w' => e = .returned (.string (tV (tS l o))) ∧ Only r w w' ∧ CuO w' r A cap l (nO (tS l o)) := by
  obtain ⟨i, ok, hc⟩ := h
  obtain ⟨c0, c1, c2⟩ := hc.box.row3
  have f1 := hc.box.thaw 1
  have f2 := hc.box.thaw 2
  have q0 := hc.box.lt
  have hst := hc.st
  have HC := hidP hc
  have HG := hidP (fun W (hA : At W A l) => specGetText_any A cap l hl hcap hcm i hc.i64 W hA)
  have HAt := hidP hc.at
  clear hc
  cases hg : getT l i with
  | none =>
    have hn : Hid (tS l o = none) := by show _ = _; rw [hst]; unfold tS; split <;> simp [hg]
    rw [hg] at HG
    simp only [txtT] at HG
    clear hst
    go_enter Tryz.func40, Tryz.ntmps40
    go_wp2_with fail
    go_quiet (first | (go_at_call 80; refine Calls.quiet_of_same (HG.out _ (HAt.out.below (below_drewN (Below.refl _ _) _)))))
    go_wp2
    go_ret
    rw [hn.out]
    exact ⟨rfl, (only_drewN (Only.refl _ _) _).set _ _, i, false, (HC.out.drewN _).stop⟩
  | some x =>
    obtain ⟨n, c⟩ := x
    rw [hg] at HG
    simp only [txtT] at HG
    have hle := getT_le hg
    cases ok with
    | false =>
      have hn : Hid (tS l o = none) := by show _ = _; rw [hst]; rfl
      clear hst
      go_enter Tryz.func40, Tryz.ntmps40
      go_wp2_with fail
      go_quiet (first | (go_at_call 80; refine Calls.quiet_of_same (HG.out _ (HAt.out.below (below_drewN (Below.refl _ _) _)))))
      go_wp2
      go_ret
      rw [hn.out]
      exact ⟨rfl, (only_drewN (Only.refl _ _) _).set _ _, i, false, (HC.out.drewN _).stop⟩
    | true =>
      have hn : Hid (tS l o = some (n, c)) := by show _ = _; rw [hst]; unfold tS; simp [hg]
      have hc64 : Hid (I64 (c : Int)) := hidP ⟨by omega, by omega⟩
      clear hst hle
      go_enter Tryz.func40, Tryz.ntmps40
      go_wp2_with fail
      go_quiet (first | (go_at_call 80; refine Calls.quiet_of_same (HG.out _ (HAt.out.below (below_drewN (Below.refl _ _) _)))))
      go_wp2
      go_ret
      rw [hn.out]
      exact ⟨rfl, (only_drewN (Only.refl _ _) _).set _ _, (c : Int), true, (HC.out.drewN _).goto c hc64.out⟩

end Go.Proofs.YtjjbbkmedpfenaaGreat.Gen
