/-
  Lists of bytes: how they lie, and what the laws' to, eq, mark and held functions of them do. No condition but that there are at most 1048576.
-/
import Derived.Test.YtmdaammalacifaaGreatAns
set_option linter.unusedVariables false
set_option linter.unusedSimpArgs false
set_option maxRecDepth 100000
set_option maxHeartbeats 8000000
namespace Go.Proofs.YtmdaammalacifaaGreat.Gen
open ChangeShapes WideShapes ChangeAt RowKit Joins Deep Base
instance : Cel UInt8 where
  k := 1
  cs x := [.int .u8 (x.toNat : Int)]
  len _ := rfl
  one x u hu := by simp at hu; subst hu; rfl
theorem In.getB {w : World} {b o : Nat} {l : List UInt8} (h : In w b o l) (i : Nat) (hi : i < l.length) : w.cell? ⟨b, o + i, none⟩ = some (.int .u8 (l[i].toNat : Int)) := by
 have := h.cell i hi (f := 0) rfl
 have e : o + i * Cel.k UInt8 + 0 = o + i := by show o + i * 1 + 0 = o + i; omega
 rwa [e] at this
theorem Qfd {w : World} {b o m n : Nat} (h : w.there b o (m * 1)) (hn : n < m) : (∃ v, w.cell? ⟨b, o + n, none⟩ = some v) /\ w.frozen? ⟨b, o + n, none⟩ = false := by
 have := Qad (f := 0) h hn (by omega)
 rwa [Nat.mul_one, Nat.add_zero] at this
theorem infoB : (Tryz.prog.info? 5).map (fun i => (i.zero, i.size, i.bytes)) = some (some (.int .u8 0), 1, 1) := by kernel_rfl
theorem cellsB : Tryz.prog.cellsOf 5 = 1 := by kernel_rfl
theorem Qd4 (B : Nat) (v : Value) (l m : List UInt8) (A : Option Addr) (cap : Nat) (w : World) (hB : B <= w.heap.size) (hv : w.ownsRow B 5 1 v l.length (flat l)) (hA : At w A m) (hlen : l.length + m.length <= 1000000000) :
 ∃ v' w', (Builtin.append_ #[35, 35] 35 #[v, .slice A m.length cap]).run Tryz.prog w = .ok v' w' /\ w'.ownsRow B 5 1 v' (l.length + m.length) (flat (l ++ m)) /\ w.grownBy w' v.ownBlock /\ (v'.ownBlock = v.ownBlock ∨ v'.ownBlock = some w.heap.size) := by
 obtain ⟨i0, hi, hz0, hz1, hz2⟩ := info_parts infoB
 by_cases h0 : m = []
 . subst h0
   have e0 : ∃ a n c, v = .slice a n c /\ n <= c := by
    rcases hv.2 with ⟨rfl, _⟩ | ⟨g, c, cur, rfl, _, _, h, _⟩
    . exact ⟨_, _, _, rfl, Nat.le_refl _⟩
    . exact ⟨_, _, _, rfl, h⟩
   obtain ⟨a, n, c, rfl, hle⟩ := e0
   exact ⟨_, _, run_append_nothing w 35 35 35 5 i0 Tryz.underlying35 hi a n c hle _ (hz1 ▸ Qdp _ 35 5 Tryz.underlying35 A cap w), by simpa using hv, World.grownBy.refl _ _, .inl rfl⟩
 . obtain ⟨b, o, rfl, hb, hin⟩ := hA.resolve_left h0
   have hm : 0 < m.length := List.length_pos_iff.2 h0
   obtain ⟨g, c, w', hr, h1, h2, h3, h4⟩ := run_append_lies (P := Tryz.prog) w 35 35 B 5 i0 (.int .u8 0) 1 1 Tryz.underlying35 hi hz0 hz1 hz2 rfl (by decide) v l.length (flat l) hv ⟨b, o, none⟩ m.length cap (flat m) (Qaw m)
    (fun j u hu => by rw [Addr.add_mid]; exact hin j u hu) (Qgd m) hm (by simp [maxLen]; omega) (by omega) hB _ rfl
   exact ⟨_, _, hr, by rw [Qa2]; exact h1, h2, h3.imp (fun e => by rw [e]; rfl) (fun e => by rw [← e]; rfl)⟩
theorem store_b {w : World} {b : Nat} {l : List UInt8} {n : Nat} (hin : In w b 0 (l.take n)) (hth : w.there b 0 (l.length * 1)) (hn : n < l.length) :
 In (w.setCell ⟨b, n, none⟩ (.int .u8 (l[n].toNat : Int))) b 0 (l.take (n + 1)) /\ (w.setCell ⟨b, n, none⟩ (.int .u8 (l[n].toNat : Int))).there b 0 (l.length * 1) := by
 have h := Qcs hin hth hn
 have e : w.setCells b (n * Cel.k UInt8) (Cel.cs l[n]) = w.setCell ⟨b, n, none⟩ (.int .u8 (l[n].toNat : Int)) := by
  show (w.setCell ⟨b, n * 1, none⟩ (.int .u8 (l[n].toNat : Int))) = _
  rw [Nat.mul_one]
 rw [e] at h
 exact h
theorem toB_any (A : Option Addr) (cap : Nat) (l : List UInt8) (hl : l.length <= 1048576) (w : World) (hA : At w A l) :
 Calls Tryz.prog 71 #[.slice A l.length cap] w fun e w' => e = .returned (.slice (some ⟨w.heap.size, 0, none⟩) l.length l.length) /\ Below w.heap.size w w' /\ w.heap.size < w'.heap.size /\ In w' w.heap.size 0 l /\ w'.there w.heap.size 0 (l.length * 1) := by
 have HA : Hid (At w A l) := hA
 clear hA
 have hmk := Qb2 (P := Tryz.prog) Tryz.underlying35 infoB (by omega) l.length hl
 go_enter Tryz.func71, Tryz.ntmps71
 go_wp2
 go_loopw [4] (fun i w' => ∃ (n : Nat), i = .int .i64 (n : Int) /\ n <= l.length /\ Below w.heap.size w w' /\ w.heap.size < w'.heap.size /\ Hid (In w' w.heap.size 0 (l.take n)) /\ Hid (w'.there w.heap.size 0 (l.length * 1))) (fun i _ => l.length - (intOf i).toNat)
 case atStart => exact ⟨0, rfl, by omega, by repeat (first | exact Below.refl _ _ | refine via0 (by assumption) ?_ | refine Below.drew ?_ | refine Qab ?_ _), by simp, In.nil _ _ _, hidP (by have h := Qa9 w #[Value.int .u8 0] l.length 1 5; simpa using h)⟩
 case round =>
  obtain ⟨n, rfl, hn, hbl, hsz, hin, hth⟩ := hrel
  by_cases hlt : n < l.length
  . obtain ⟨b, o, rfl, hbs, hIn⟩ : ∃ b o, A = some ⟨b, o, none⟩ /\ b < w.heap.size /\ In w b o l := by
     rcases HA.out with h | h
     . subst h; simp at hlt
     . exact h
    have c0 := (hIn.below hbs hbl).getB n hlt
    obtain ⟨⟨v0, d0⟩, f0⟩ := Qfd hth.out hlt
    simp only [Nat.zero_add] at d0 f0
    go_wp2
    have hst := store_b hin.out hth.out hlt
    exact ⟨⟨n + 1, by go_num, by omega, hbl.setCell (Nat.le_refl _) _, by simpa using hsz, hst.1, hst.2⟩, by simp [intOf]; omega⟩
  . have e : l.take n = l := List.take_of_length_le (by omega)
    go_wp2
    go_ret
    exact ⟨rfl, hbl, hsz, by have := hin.out; rwa [e] at this, hth.out⟩
theorem eqB_same (A A' : Option Addr) (cap cap' : Nat) (l : List UInt8) (hl : l.length <= 9223372036854775807) (w : World) (hA : At w A l) (hA' : At w A' l) :
 Calls Tryz.prog 85 #[.slice A l.length cap, .slice A' l.length cap'] w fun e w' => e = .returned (.bool true) /\ Below w.heap.size w w' := by
 have HA : Hid (At w A l) := hA
 have HA' : Hid (At w A' l) := hA'
 clear hA hA'
 go_enter Tryz.func85, Tryz.ntmps85
 go_wp2
 go_loopw [5] (fun i w' => ∃ (n : Nat), i = .int .i64 (n : Int) /\ n <= l.length /\ Below w.heap.size w w') (fun i _ => l.length - (intOf i).toNat)
 case atStart => exact ⟨0, rfl, by omega, Below.refl _ _⟩
 case round =>
  obtain ⟨n, rfl, hn, hbl⟩ := hrel
  by_cases hlt : n < l.length
  . obtain ⟨b, o, rfl, hbs, hin⟩ : ∃ b o, A = some ⟨b, o, none⟩ /\ b < w.heap.size /\ In w b o l := by
     rcases HA.out with h | h
     . subst h; simp at hlt
     . exact h
    obtain ⟨b', o', rfl, hbs', hin'⟩ : ∃ b o, A' = some ⟨b, o, none⟩ /\ b < w.heap.size /\ In w b o l := by
     rcases HA'.out with h | h
     . subst h; simp at hlt
     . exact h
    have c0 := (hin.below hbs hbl).getB n hlt
    have d0 := (hin'.below hbs' hbl).getB n hlt
    have hi0 : (0 : Int) <= (n : Int) := by omega
    have hi1 : (n : Int) < (l.length : Int) := by omega
    go_wp2
    go_region
    all_goals
     go_wp2
     exact ⟨⟨n + 1, by go_num, by omega, by repeat (first | exact hbl | refine Below.drew ?_)⟩, by simp [intOf]; omega⟩
  . go_wp2
    go_ret
    exact ⟨rfl, hbl⟩
def u8 (z : Int) : UInt8 := UInt8.ofNat (z % 256).toNat
theorem Qeq (z : Int) : ((u8 z).toNat : Int) = z % 256 := by
 unfold u8
 rw [UInt8.toNat_ofNat']
 omega
def Qbl (n : Nat) (z : Int) : List UInt8 := (List.range n).map fun (i : Nat) => u8 (z + (i : Int))
theorem Qb5 (n : Nat) (z : Int) : (Qbl n z).length = n := by simp [Qbl]
theorem Qgu (n : Nat) (z : Int) : Qbl (n + 1) z = Qbl n z ++ [u8 (z + (n : Int))] := by simp [Qbl, List.range_succ]
theorem marksB_get (n : Nat) (z : Int) (i : Nat) (h : i < (Qbl n z).length) : (Qbl n z)[i] = u8 (z + (i : Int)) := by simp [Qbl]
theorem markB_any (b o cap m : Nat) (k : Int) (hk : 1 <= k) (hk' : k <= 100000000) (hm : m <= 500000000) (w : World) (hb : b < w.heap.size) (hth : w.there b o (m * 1)) :
 Calls Tryz.prog 92 #[.slice (some ⟨b, o, none⟩) m cap, .int .i64 k] w fun e w' => e = .returned (.int .i64 (k + (m : Int))) /\ Only b w w' /\ In w' b o (Qbl m k) /\ w'.there b o (m * 1) := by
 have HT : Hid (w.there b o (m * 1)) := hth
 clear hth
 go_enter Tryz.func92, Tryz.ntmps92
 go_wp2
 go_loopw [1, 5] (fun kk i w' => ∃ (n : Nat) (z : Int), i = .int .i64 (n : Int) /\ kk = .int .i64 z /\ n <= m /\ 1 <= z /\ z <= 900000000 /\ Only b w w' /\ Hid (z = k + (n : Int)) /\ Hid (In w' b o (Qbl n k)) /\ Hid (w'.there b o (m * 1))) (fun _ i _ => m - (intOf i).toNat)
 case atStart => exact ⟨0, k, rfl, rfl, by omega, hk, by omega, Only.refl _ _, by simp [Hid], fun j v hv => by simp [Qbl, flat] at hv, HT.out⟩
 case round =>
  obtain ⟨n, z, rfl, rfl, hn, hz1, hz2, ho, hz, hin, hth⟩ := hrel
  by_cases hlt : n < m
  . obtain ⟨⟨v0, d0⟩, f0⟩ := Qfd hth.out hlt
    have q1 : b < wr.heap.size := Nat.lt_of_lt_of_le hb ho.size
    go_wp2
    have hlen : (flat (Qbl n k)).length = n := by rw [Qaw, Qb5]; show n * 1 = n; omega
    have P0 := push (v := .int .u8 (z % 256)) (q := o + n) ⟨hin.out, hth.out, q1⟩ (by simp [hlen]; omega) (by simp [hlen])
    have e : flat (Qbl n k) ++ [Value.int .u8 (z % 256)] = flat (Qbl (n + 1) k) := by rw [Qgu, Qa2, Qbe, hz.out, ← Qeq]; rfl
    rw [e] at P0
    have hz' := hz.out
    refine ⟨⟨n + 1, z + 1, by go_num, rfl, by omega, by omega, by omega, ?_, by show z + 1 = _; omega, P0.1, P0.2.1⟩, by simp [intOf]; omega⟩
    exact ho.set _ _
  . obtain rfl : n = m := by omega
    go_wp2
    go_ret
    have e := hz.out
    subst e
    exact ⟨rfl, ho, hin.out, hth.out⟩
theorem markB_none (A : Option Addr) (cap : Nat) (k : Int) (w : World) :
 Calls Tryz.prog 92 #[.slice A 0 cap, .int .i64 k] w fun e w' => e = .returned (.int .i64 k) /\ w' = w := by
 go_enter Tryz.func92, Tryz.ntmps92
 go_wp2
 go_loopw [1, 5] (fun kk i w' => kk = .int .i64 k /\ i = .int .i64 0 /\ w' = w) (fun _ _ _ => 0)
 case atStart => exact ⟨rfl, rfl, rfl⟩
 case round =>
  obtain ⟨rfl, rfl, rfl⟩ := hrel
  go_wp2
  go_ret
  exact ⟨rfl, rfl⟩
theorem heldB_any (A : Option Addr) (cap m : Nat) (k : Int) (hk : 1 <= k) (hk' : k <= 100000000) (hm : m <= 500000000) (w : World)
 (hA : m = 0 ∨ ∃ b o, A = some ⟨b, o, none⟩ /\ b < w.heap.size /\ In w b o (Qbl m k)) :
 Calls Tryz.prog 99 #[.slice A m cap, .int .i64 k] w fun e w' => e = .returned (.int .i64 (k + (m : Int))) /\ Below w.heap.size w w' := by
 have HA : Hid (m = 0 ∨ ∃ b o, A = some ⟨b, o, none⟩ /\ b < w.heap.size /\ In w b o (Qbl m k)) := hA
 clear hA
 go_enter Tryz.func99, Tryz.ntmps99
 go_wp2
 go_loopw [1, 5] (fun kk i w' => ∃ (n : Nat) (z : Int), i = .int .i64 (n : Int) /\ kk = .int .i64 z /\ n <= m /\ 1 <= z /\ z <= 900000000 /\ Hid (z = k + (n : Int)) /\ Below w.heap.size w w') (fun _ i _ => m - (intOf i).toNat)
 case atStart => exact ⟨0, k, rfl, rfl, by omega, hk, by omega, by simp [Hid], Below.refl _ _⟩
 case round =>
  obtain ⟨n, z, rfl, rfl, hn, hz1, hz2, hz, hbl⟩ := hrel
  by_cases hlt : n < m
  . obtain ⟨b, o, rfl, hbs, hin⟩ : ∃ b o, A = some ⟨b, o, none⟩ /\ b < w.heap.size /\ In w b o (Qbl m k) := by
     rcases HA.out with h | h
     . omega
     . exact h
    have c0 : wr.cell? ⟨b, o + n, none⟩ = some (.int .u8 (z % 256)) := by
     have h := (hin.below hbs hbl).getB n (by rw [Qb5]; exact hlt)
     rw [marksB_get, Qeq] at h
     rw [hz.out]
     exact h
    have hi0 : (0 : Int) <= (n : Int) := by omega
    have hi1 : (n : Int) < (m : Int) := by omega
    go_wp2
    try go_region
    all_goals
     try go_wp2
     have hz' := hz.out
     exact ⟨⟨n + 1, z + 1, by go_num, rfl, by omega, by omega, by omega, by show z + 1 = _; omega, by repeat (first | exact hbl | refine Below.drew ?_)⟩, by simp [intOf]; omega⟩
  . obtain rfl : n = m := by omega
    go_wp2
    go_ret
    have e := hz.out
    subst e
    exact ⟨rfl, hbl⟩
theorem openB1 {H : Type} {enc : TypeId × Value -> H} {w : World} {base n : Nat} {spare : Nat -> Bool} {held : Bool} {a : Addr} {cs : List Value} {y : DataW H × List MemPlace}
 (h1 : w.cells? base a 1 = some cs) (h2 : DataW.trod enc Tryz.prog w base spare held n 5 cs = some y) :
 ∃ x : UInt8, True /\ a.spot = none /\ a.block < w.heap.size /\ ∀ j v, (Cel.cs x)[j]? = some v -> w.cell? ⟨a.block, a.off + j, none⟩ = some v := by
 obtain ⟨_, hlen, hc⟩ := World.cells?_some h1
 match cs, hlen with
 | [c0], _ =>
  obtain ⟨x, e0, _, w0⟩ := DataW.trod_int Tryz.underlying5 h2
  simp at e0
  subst e0
  have hx : 0 <= x /\ x <= 255 := by simpa [Lit.wf, IntKind.min, IntKind.max, IntKind.signed, IntKind.bits] using w0
  have q0 := hc 0 (by omega)
  have hsp : a.spot = none := by
   cases hs : a.spot with
   | none => rfl
   | some s => exfalso; simp [Addr.add, World.cell?, hs] at q0; split at q0<;>simp at q0
  have hlt : a.block < w.heap.size := by
   rw [show a.add 0 = a from rfl] at q0
   unfold World.cell? at q0
   cases hh : w.heap[a.block]? with
   | none => simp [hh] at q0
   | some ob => exact (Array.getElem?_eq_some_iff.1 hh).1
  refine ⟨u8 x, trivial, hsp, hlt, ?_⟩
  intro j v hv
  have hj : j < 1 := (List.getElem?_eq_some_iff.1 hv).1
  have q := hc j hj
  have e : a.add j = ⟨a.block, a.off + j, none⟩ := by
   obtain ⟨b, o, s⟩ := a
   simp only at hsp
   subst hsp
   exact Addr.add_mid b o j
  rw [e] at q
  rw [q]
  have e8 : ((u8 x).toNat : Int) = x := by rw [Qeq]; omega
  have ec : (Cel.cs (u8 x) : List Value) = [.int .u8 x] := by show [Value.int .u8 ((u8 x).toNat : Int)] = _; rw [e8]
  rw [ec] at hv
  exact hv
theorem openBs {H : Type} {enc : TypeId × Value -> H} {W : World} {base n : Nat} {spare : Nat -> Bool} {held : Bool} {c : Value} {y : DataW H × List MemPlace}
 (g : DataW.trod enc Tryz.prog W base spare held n 35 [c] = some y) :
 ∃ (A : Option Addr) (cap : Nat) (l : List UInt8), c = .slice A l.length cap /\ l.length <= 9223372036854775807 /\ At W A l := by
 rcases open_slice Tryz.underlying35 g with ⟨e2, _⟩ | ⟨a, len, cap, m, n', D, Pl, e2, _, hl, hm, hmm, _, hx⟩
 . simp at e2
   subst e2
   exact ⟨none, 0, [], rfl, by simp, .inl rfl⟩
 . simp at e2
   subst e2
   have hle : len <= m := by rw [hmm]; split<;>omega
   rw [cellsB] at hx
   obtain ⟨X, hX⟩ := choose_lt (α := UInt8) (p := fun i x => True /\ (a.add (i * 1)).spot = none /\ (a.add (i * 1)).block < W.heap.size /\ ∀ j v, (Cel.cs x)[j]? = some v -> W.cell? ⟨(a.add (i * 1)).block, (a.add (i * 1)).off + j, none⟩ = some v)
    (n := len) (fun i hi => by obtain ⟨cs', h1, h2⟩ := hx i (by omega); exact openB1 h1 h2)
   obtain ⟨l, rfl, hR, hat⟩ := Qd3 (α := UInt8) (by decide) (R := fun _ => True) hX
   exact ⟨some a, cap, l, rfl, by simp [maxLen] at hm ⊢; omega, hat⟩
end Go.Proofs.YtmdaammalacifaaGreat.Gen
namespace Go.Proofs.YtmdaammalacifaaGreat.Cmd
open ChangeShapes WideShapes ChangeAt RowKit Base
theorem to_any (who seq op a b c : Int) (k t : ByteArray) (w : World) :
 Calls Tryz.prog 114 #[.agg #[.int .i64 who, .int .i64 seq, .int .i64 op, .int .i64 a, .int .i64 b, .int .i64 c, .string k, .string t]] w fun e w' => e = .returned (.agg #[.int .i64 who, .int .i64 seq, .int .i64 op, .int .i64 a, .int .i64 b, .int .i64 c, .string k, .string t]) /\ Below w.heap.size w w' := by
 go_enter Tryz.func114, Tryz.ntmps114
 go_wp2
 exact bodyPost_ret (v := .agg #[.int .i64 who, .int .i64 seq, .int .i64 op, .int .i64 a, .int .i64 b, .int .i64 c, .string k, .string t]) (by simp [results, Tryz.results114, go_sem]) rfl
  ⟨rfl, by repeat (first | exact Below.refl _ _ | refine Below.drew ?_ | refine Below.alloc ?_ (by simp<;>omega) _)⟩
end Go.Proofs.YtmdaammalacifaaGreat.Cmd
namespace Go.Proofs.YtmdaammalacifaaGreat.CmdOk
open ChangeShapes WideShapes ChangeAt RowKit Joins Base Cmd
theorem own : ownKnob Tryz.prog.godebug = none := by kernel_rfl
theorem laidOut : laidOutB Tryz.prog = true := by kernel_rfl
end Go.Proofs.YtmdaammalacifaaGreat.CmdOk
