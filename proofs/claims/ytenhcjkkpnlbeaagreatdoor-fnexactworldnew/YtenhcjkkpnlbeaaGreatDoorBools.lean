/-
  Lists of flags: how they lie, and what the laws' to, sz, eq, mark and held functions of them do. No condition but that there are at most 1048576.
-/
import Derived.Test.YtenhcjkkpnlbeaaGreatDoorItems
import Derived.Test.YtenhcjkkpnlbeaaGreatDoorAns
set_option linter.unusedVariables false
set_option linter.unusedSimpArgs false
set_option maxRecDepth 100000
set_option maxHeartbeats 8000000
namespace Go.Proofs.YtenhcjkkpnlbeaaGreatDoor.Gen
open ChangeShapes WideShapes ChangeAt RowKit Joins Deep Base
instance : Cel Bool where
  k := 1
  cs x := [.bool x]
  len _ := rfl
  one x u hu := by simp at hu; subst hu; rfl
theorem In.getBool {w : World} {b o : Nat} {l : List Bool} (h : In w b o l) (i : Nat) (hi : i < l.length) : w.cell? ⟨b, o + i, none⟩ = some (.bool l[i]) := by
 have := h.cell i hi (f := 0) rfl
 have e : o + i * Cel.k Bool + 0 = o + i := by show o + i * 1 + 0 = o + i; omega
 rwa [e] at this
theorem infoBool : (Tryz.prog.info? 4).map (fun i => (i.zero, i.size, i.bytes)) = some (some (.bool false), 1, 1) := by kernel_rfl
theorem Qm7 (A A' : Option Addr) (cap cap' : Nat) (l : List Bool) (hl : l.length <= 9223372036854775807) (w : World) (hA : At w A l) (hA' : At w A' l) :
 Calls Tryz.prog 98 #[.slice A l.length cap, .slice A' l.length cap'] w fun e w' => e = .returned (.bool true) /\ Below w.heap.size w w' := by
 have HA : Hid (At w A l) := hA
 have HA' : Hid (At w A' l) := hA'
 clear hA hA'
 go_enter Tryz.func98, Tryz.ntmps98
 go_wp2
 go_loopw [5] (fun i w' => ∃ (n : Nat), i = .int .i64 (n : Int) /\ n <= l.length /\ Below w.heap.size w w') (fun i _ => l.length - (intOf i).toNat)
 case atStart => exact ⟨0, rfl, by omega, Below.refl _ _⟩
 case round =>
  obtain ⟨n, rfl, hn, hbl⟩ := hrel
  by_cases hlt : n < l.length
  . obtain ⟨b, o, rfl, hbs, hin⟩ : ∃ b o, A = some ⟨b, o, none⟩ /\ b < w.heap.size /\ In w b o l := by
     rcases HA.out with h | h
     . subst h; simp at hlt
     . exact h
    obtain ⟨b', o', rfl, hbs', hin'⟩ : ∃ b o, A' = some ⟨b, o, none⟩ /\ b < w.heap.size /\ In w b o l := by
     rcases HA'.out with h | h
     . subst h; simp at hlt
     . exact h
    have c0 := (hin.below hbs hbl).getBool n hlt
    have d0 := (hin'.below hbs' hbl).getBool n hlt
    have hi0 : (0 : Int) <= (n : Int) := by omega
    have hi1 : (n : Int) < (l.length : Int) := by omega
    go_wp2
    go_region
    all_goals
     go_wp2
     exact ⟨⟨n + 1, by go_num, by omega, by repeat (first | exact hbl | refine Below.drew ?_)⟩, by simp [intOf]; omega⟩
  . go_wp2
    go_ret
    exact ⟨rfl, hbl⟩
def Qbc (n : Nat) (z : Int) : List Bool := (List.range n).map fun (i : Nat) => (z + (i : Int)) % 3 == 0
theorem Qbx (n : Nat) (z : Int) : (Qbc n z).length = n := by simp [Qbc]
theorem Qh0 (n : Nat) (z : Int) : Qbc (n + 1) z = Qbc n z ++ [(z + (n : Int)) % 3 == 0] := by simp [Qbc, List.range_succ]
theorem Qi7 (n : Nat) (z : Int) (i : Nat) (h : i < (Qbc n z).length) : (Qbc n z)[i] = ((z + (i : Int)) % 3 == 0) := by simp [Qbc]
theorem Qld (b o cap m : Nat) (k : Int) (hk : 1 <= k) (hk' : k <= 100000000) (hm : m <= 2000000) (w : World) (hb : b < w.heap.size) (hth : w.there b o (m * 1)) :
 Calls Tryz.prog 60 #[.slice (some ⟨b, o, none⟩) m cap, .int .i64 k] w fun e w' => e = .returned (.int .i64 (k + (m : Int))) /\ Only b w w' /\ In w' b o (Qbc m k) /\ w'.there b o (m * 1) := by
 have HT : Hid (w.there b o (m * 1)) := hth
 clear hth
 go_enter Tryz.func60, Tryz.ntmps60
 go_wp2
 go_loopw [1, 5] (fun kk i w' => ∃ (n : Nat) (z : Int), i = .int .i64 (n : Int) /\ kk = .int .i64 z /\ n <= m /\ 1 <= z /\ z <= 900000000 /\ Only b w w' /\ Hid (z = k + (n : Int)) /\ Hid (In w' b o (Qbc n k)) /\ Hid (w'.there b o (m * 1))) (fun _ i _ => m - (intOf i).toNat)
 case atStart => exact ⟨0, k, rfl, rfl, by omega, hk, by omega, Only.refl _ _, by simp [Hid], fun j v hv => by simp [Qbc, flat] at hv, HT.out⟩
 case round =>
  obtain ⟨n, z, rfl, rfl, hn, hz1, hz2, ho, hz, hin, hth⟩ := hrel
  by_cases hlt : n < m
  . obtain ⟨⟨v0, d0⟩, f0⟩ := Qj6 hth.out hlt
    have q1 : b < wr.heap.size := Nat.lt_of_lt_of_le hb ho.size
    go_wp2
    have hlen : (flat (Qbc n k)).length = n := by rw [Qa6, Qbx]; show n * 1 = n; omega
    have P0 := push (v := .bool (z % 3 == 0)) (q := o + n) ⟨hin.out, hth.out, q1⟩ (by simp [hlen]; omega) (by simp [hlen])
    have e : flat (Qbc n k) ++ [Value.bool (z % 3 == 0)] = flat (Qbc (n + 1) k) := by rw [Qh0, Qbf, Qce, hz.out]; rfl
    rw [e] at P0
    have hz' := hz.out
    refine ⟨⟨n + 1, z + 1, by go_num, rfl, by omega, by omega, by omega, ?_, by show z + 1 = _; omega, P0.1, P0.2.1⟩, by simp [intOf]; omega⟩
    exact ho.set _ _
  . obtain rfl : n = m := by omega
    go_wp2
    go_ret
    have e := hz.out
    subst e
    exact ⟨rfl, ho, hin.out, hth.out⟩
theorem Qjb (A : Option Addr) (cap : Nat) (k : Int) (w : World) :
 Calls Tryz.prog 60 #[.slice A 0 cap, .int .i64 k] w fun e w' => e = .returned (.int .i64 k) /\ w' = w := by
 go_enter Tryz.func60, Tryz.ntmps60
 go_wp2
 go_loopw [1, 5] (fun kk i w' => kk = .int .i64 k /\ i = .int .i64 0 /\ w' = w) (fun _ _ _ => 0)
 case atStart => exact ⟨rfl, rfl, rfl⟩
 case round =>
  obtain ⟨rfl, rfl, rfl⟩ := hrel
  go_wp2
  go_ret
  exact ⟨rfl, rfl⟩
theorem Qll (A : Option Addr) (cap m : Nat) (k : Int) (hk : 1 <= k) (hk' : k <= 100000000) (hm : m <= 2000000) (w : World)
 (hA : m = 0 ∨ ∃ b o, A = some ⟨b, o, none⟩ /\ b < w.heap.size /\ In w b o (Qbc m k)) :
 Calls Tryz.prog 68 #[.slice A m cap, .int .i64 k] w fun e w' => e = .returned (.int .i64 (k + (m : Int))) /\ Below w.heap.size w w' := by
 have HA : Hid (m = 0 ∨ ∃ b o, A = some ⟨b, o, none⟩ /\ b < w.heap.size /\ In w b o (Qbc m k)) := hA
 clear hA
 go_enter Tryz.func68, Tryz.ntmps68
 go_wp2
 go_loopw [1, 5] (fun kk i w' => ∃ (n : Nat) (z : Int), i = .int .i64 (n : Int) /\ kk = .int .i64 z /\ n <= m /\ 1 <= z /\ z <= 900000000 /\ Hid (z = k + (n : Int)) /\ Below w.heap.size w w') (fun _ i _ => m - (intOf i).toNat)
 case atStart => exact ⟨0, k, rfl, rfl, by omega, hk, by omega, by simp [Hid], Below.refl _ _⟩
 case round =>
  obtain ⟨n, z, rfl, rfl, hn, hz1, hz2, hz, hbl⟩ := hrel
  by_cases hlt : n < m
  . obtain ⟨b, o, rfl, hbs, hin⟩ : ∃ b o, A = some ⟨b, o, none⟩ /\ b < w.heap.size /\ In w b o (Qbc m k) := by
     rcases HA.out with h | h
     . omega
     . exact h
    have c0 : wr.cell? ⟨b, o + n, none⟩ = some (.bool (z % 3 == 0)) := by
     have h := (hin.below hbs hbl).getBool n (by rw [Qbx]; exact hlt)
     rw [Qi7] at h
     rw [hz.out]
     exact h
    have hi0 : (0 : Int) <= (n : Int) := by omega
    have hi1 : (n : Int) < (m : Int) := by omega
    go_wp2
    try go_region
    all_goals
     try go_wp2
     have hz' := hz.out
     exact ⟨⟨n + 1, z + 1, by go_num, rfl, by omega, by omega, by omega, by show z + 1 = _; omega, by repeat (first | exact hbl | refine Below.drew ?_)⟩, by simp [intOf]; omega⟩
  . obtain rfl : n = m := by omega
    go_wp2
    go_ret
    have e := hz.out
    subst e
    exact ⟨rfl, hbl⟩
end Go.Proofs.YtenhcjkkpnlbeaaGreatDoor.Gen
namespace Go.Proofs.YtenhcjkkpnlbeaaGreatDoor.Gen
open ChangeShapes WideShapes ChangeAt RowKit Joins Deep Base
instance : Cel UInt8 where
  k := 1
  cs x := [.int .u8 (x.toNat : Int)]
  len _ := rfl
  one x u hu := by simp at hu; subst hu; rfl
theorem In.getB {w : World} {b o : Nat} {l : List UInt8} (h : In w b o l) (i : Nat) (hi : i < l.length) : w.cell? ⟨b, o + i, none⟩ = some (.int .u8 (l[i].toNat : Int)) := by
 have := h.cell i hi (f := 0) rfl
 have e : o + i * Cel.k UInt8 + 0 = o + i := by show o + i * 1 + 0 = o + i; omega
 rwa [e] at this
theorem there_one {w : World} {b o m n : Nat} (h : w.there b o (m * 1)) (hn : n < m) : (∃ v, w.cell? ⟨b, o + n, none⟩ = some v) /\ w.frozen? ⟨b, o + n, none⟩ = false := by
 have := Qaq (f := 0) h hn (by omega)
 rwa [Nat.mul_one, Nat.add_zero] at this
theorem infoB : (Tryz.prog.info? 5).map (fun i => (i.zero, i.size, i.bytes)) = some (some (.int .u8 0), 1, 1) := by kernel_rfl
theorem Qng (B : Nat) (v : Value) (l m : List UInt8) (A : Option Addr) (cap : Nat) (w : World) (hB : B <= w.heap.size) (hv : w.ownsRow B 5 1 v l.length (flat l)) (hA : At w A m) (hlen : l.length + m.length <= 1000000000) :
 ∃ v' w', (Builtin.append_ #[52, 52] 52 #[v, .slice A m.length cap]).run Tryz.prog w = .ok v' w' /\ w'.ownsRow B 5 1 v' (l.length + m.length) (flat (l ++ m)) /\ w.grownBy w' v.ownBlock /\ (v'.ownBlock = v.ownBlock ∨ v'.ownBlock = some w.heap.size) := by
 obtain ⟨i0, hi, hz0, hz1, hz2⟩ := info_parts infoB
 by_cases h0 : m = []
 . subst h0
   have e0 : ∃ a n c, v = .slice a n c /\ n <= c := by
    rcases hv.2 with ⟨rfl, _⟩ | ⟨g, c, cur, rfl, _, _, h, _⟩
    . exact ⟨_, _, _, rfl, Nat.le_refl _⟩
    . exact ⟨_, _, _, rfl, h⟩
   obtain ⟨a, n, c, rfl, hle⟩ := e0
   exact ⟨_, _, run_append_nothing w 52 52 52 5 i0 Tryz.underlying52 hi a n c hle _ (hz1 ▸ Qgn _ 52 5 Tryz.underlying52 A cap w), by simpa using hv, World.grownBy.refl _ _, .inl rfl⟩
 . obtain ⟨b, o, rfl, hb, hin⟩ := hA.resolve_left h0
   have hm : 0 < m.length := List.length_pos_iff.2 h0
   obtain ⟨g, c, w', hr, h1, h2, h3, h4⟩ := run_append_lies (P := Tryz.prog) w 52 52 B 5 i0 (.int .u8 0) 1 1 Tryz.underlying52 hi hz0 hz1 hz2 rfl (by decide) v l.length (flat l) hv ⟨b, o, none⟩ m.length cap (flat m) (Qa6 m)
    (fun j u hu => by rw [Addr.add_mid]; exact hin j u hu) (Qlq m) hm (by simp [maxLen]; omega) (by omega) hB _ rfl
   exact ⟨_, _, hr, by rw [Qbf]; exact h1, h2, h3.imp (fun e => by rw [e]; rfl) (fun e => by rw [← e]; rfl)⟩
theorem eqB_same (A A' : Option Addr) (cap cap' : Nat) (l : List UInt8) (hl : l.length <= 9223372036854775807) (w : World) (hA : At w A l) (hA' : At w A' l) :
 Calls Tryz.prog 147 #[.slice A l.length cap, .slice A' l.length cap'] w fun e w' => e = .returned (.bool true) /\ Below w.heap.size w w' := by
 have HA : Hid (At w A l) := hA
 have HA' : Hid (At w A' l) := hA'
 clear hA hA'
 go_enter Tryz.func147, Tryz.ntmps147
 go_wp2
 go_loopw [5] (fun i w' => ∃ (n : Nat), i = .int .i64 (n : Int) /\ n <= l.length /\ Below w.heap.size w w') (fun i _ => l.length - (intOf i).toNat)
 case atStart => exact ⟨0, rfl, by omega, Below.refl _ _⟩
 case round =>
  obtain ⟨n, rfl, hn, hbl⟩ := hrel
  by_cases hlt : n < l.length
  . obtain ⟨b, o, rfl, hbs, hin⟩ : ∃ b o, A = some ⟨b, o, none⟩ /\ b < w.heap.size /\ In w b o l := by
     rcases HA.out with h | h
     . subst h; simp at hlt
     . exact h
    obtain ⟨b', o', rfl, hbs', hin'⟩ : ∃ b o, A' = some ⟨b, o, none⟩ /\ b < w.heap.size /\ In w b o l := by
     rcases HA'.out with h | h
     . subst h; simp at hlt
     . exact h
    have c0 := (hin.below hbs hbl).getB n hlt
    have d0 := (hin'.below hbs' hbl).getB n hlt
    have hi0 : (0 : Int) <= (n : Int) := by omega
    have hi1 : (n : Int) < (l.length : Int) := by omega
    go_wp2
    go_region
    all_goals
     go_wp2
     exact ⟨⟨n + 1, by go_num, by omega, by repeat (first | exact hbl | refine Below.drew ?_)⟩, by simp [intOf]; omega⟩
  . go_wp2
    go_ret
    exact ⟨rfl, hbl⟩
def u8 (z : Int) : UInt8 := UInt8.ofNat (z % 256).toNat
theorem u8_toNat (z : Int) : ((u8 z).toNat : Int) = z % 256 := by
 unfold u8
 rw [UInt8.toNat_ofNat']
 omega
def Qcv (n : Nat) (z : Int) : List UInt8 := (List.range n).map fun (i : Nat) => u8 (z + (i : Int))
theorem Qcl (n : Nat) (z : Int) : (Qcv n z).length = n := by simp [Qcv]
theorem Qmo (n : Nat) (z : Int) : Qcv (n + 1) z = Qcv n z ++ [u8 (z + (n : Int))] := by simp [Qcv, List.range_succ]
theorem marksB_get (n : Nat) (z : Int) (i : Nat) (h : i < (Qcv n z).length) : (Qcv n z)[i] = u8 (z + (i : Int)) := by simp [Qcv]
theorem markB_any (b o cap m : Nat) (k : Int) (hk : 1 <= k) (hk' : k <= 100000000) (hm : m <= 500000000) (w : World) (hb : b < w.heap.size) (hth : w.there b o (m * 1)) :
 Calls Tryz.prog 61 #[.slice (some ⟨b, o, none⟩) m cap, .int .i64 k] w fun e w' => e = .returned (.int .i64 (k + (m : Int))) /\ Only b w w' /\ In w' b o (Qcv m k) /\ w'.there b o (m * 1) := by
 have HT : Hid (w.there b o (m * 1)) := hth
 clear hth
 go_enter Tryz.func61, Tryz.ntmps61
 go_wp2
 go_loopw [1, 5] (fun kk i w' => ∃ (n : Nat) (z : Int), i = .int .i64 (n : Int) /\ kk = .int .i64 z /\ n <= m /\ 1 <= z /\ z <= 900000000 /\ Only b w w' /\ Hid (z = k + (n : Int)) /\ Hid (In w' b o (Qcv n k)) /\ Hid (w'.there b o (m * 1))) (fun _ i _ => m - (intOf i).toNat)
 case atStart => exact ⟨0, k, rfl, rfl, by omega, hk, by omega, Only.refl _ _, by simp [Hid], fun j v hv => by simp [Qcv, flat] at hv, HT.out⟩
 case round =>
  obtain ⟨n, z, rfl, rfl, hn, hz1, hz2, ho, hz, hin, hth⟩ := hrel
  by_cases hlt : n < m
  . obtain ⟨⟨v0, d0⟩, f0⟩ := there_one hth.out hlt
    have q1 : b < wr.heap.size := Nat.lt_of_lt_of_le hb ho.size
    go_wp2
    have hlen : (flat (Qcv n k)).length = n := by rw [Qa6, Qcl]; show n * 1 = n; omega
    have P0 := push (v := .int .u8 (z % 256)) (q := o + n) ⟨hin.out, hth.out, q1⟩ (by simp [hlen]; omega) (by simp [hlen])
    have e : flat (Qcv n k) ++ [Value.int .u8 (z % 256)] = flat (Qcv (n + 1) k) := by rw [Qmo, Qbf, Qce, hz.out, ← u8_toNat]; rfl
    rw [e] at P0
    have hz' := hz.out
    refine ⟨⟨n + 1, z + 1, by go_num, rfl, by omega, by omega, by omega, ?_, by show z + 1 = _; omega, P0.1, P0.2.1⟩, by simp [intOf]; omega⟩
    exact ho.set _ _
  . obtain rfl : n = m := by omega
    go_wp2
    go_ret
    have e := hz.out
    subst e
    exact ⟨rfl, ho, hin.out, hth.out⟩
theorem markB_none (A : Option Addr) (cap : Nat) (k : Int) (w : World) :
 Calls Tryz.prog 61 #[.slice A 0 cap, .int .i64 k] w fun e w' => e = .returned (.int .i64 k) /\ w' = w := by
 go_enter Tryz.func61, Tryz.ntmps61
 go_wp2
 go_loopw [1, 5] (fun kk i w' => kk = .int .i64 k /\ i = .int .i64 0 /\ w' = w) (fun _ _ _ => 0)
 case atStart => exact ⟨rfl, rfl, rfl⟩
 case round =>
  obtain ⟨rfl, rfl, rfl⟩ := hrel
  go_wp2
  go_ret
  exact ⟨rfl, rfl⟩
theorem heldB_any (A : Option Addr) (cap m : Nat) (k : Int) (hk : 1 <= k) (hk' : k <= 100000000) (hm : m <= 500000000) (w : World)
 (hA : m = 0 ∨ ∃ b o, A = some ⟨b, o, none⟩ /\ b < w.heap.size /\ In w b o (Qcv m k)) :
 Calls Tryz.prog 69 #[.slice A m cap, .int .i64 k] w fun e w' => e = .returned (.int .i64 (k + (m : Int))) /\ Below w.heap.size w w' := by
 have HA : Hid (m = 0 ∨ ∃ b o, A = some ⟨b, o, none⟩ /\ b < w.heap.size /\ In w b o (Qcv m k)) := hA
 clear hA
 go_enter Tryz.func69, Tryz.ntmps69
 go_wp2
 go_loopw [1, 5] (fun kk i w' => ∃ (n : Nat) (z : Int), i = .int .i64 (n : Int) /\ kk = .int .i64 z /\ n <= m /\ 1 <= z /\ z <= 900000000 /\ Hid (z = k + (n : Int)) /\ Below w.heap.size w w') (fun _ i _ => m - (intOf i).toNat)
 case atStart => exact ⟨0, k, rfl, rfl, by omega, hk, by omega, by simp [Hid], Below.refl _ _⟩
 case round =>
  obtain ⟨n, z, rfl, rfl, hn, hz1, hz2, hz, hbl⟩ := hrel
  by_cases hlt : n < m
  . obtain ⟨b, o, rfl, hbs, hin⟩ : ∃ b o, A = some ⟨b, o, none⟩ /\ b < w.heap.size /\ In w b o (Qcv m k) := by
     rcases HA.out with h | h
     . omega
     . exact h
    have c0 : wr.cell? ⟨b, o + n, none⟩ = some (.int .u8 (z % 256)) := by
     have h := (hin.below hbs hbl).getB n (by rw [Qcl]; exact hlt)
     rw [marksB_get, u8_toNat] at h
     rw [hz.out]
     exact h
    have hi0 : (0 : Int) <= (n : Int) := by omega
    have hi1 : (n : Int) < (m : Int) := by omega
    go_wp2
    try go_region
    all_goals
     try go_wp2
     have hz' := hz.out
     exact ⟨⟨n + 1, z + 1, by go_num, rfl, by omega, by omega, by omega, by show z + 1 = _; omega, by repeat (first | exact hbl | refine Below.drew ?_)⟩, by simp [intOf]; omega⟩
  . obtain rfl : n = m := by omega
    go_wp2
    go_ret
    have e := hz.out
    subst e
    exact ⟨rfl, hbl⟩
end Go.Proofs.YtenhcjkkpnlbeaaGreatDoor.Gen
namespace Go.Proofs.YtenhcjkkpnlbeaaGreatDoor.Gen
open ChangeShapes WideShapes ChangeAt RowKit Joins Deep Base
theorem flat_map1 (l : List UInt8) : flat l = l.map fun b => Value.int .u8 (b.toNat : Int) := by
 induction l with
 | nil => rfl
 | cons x l ih => rw [Qd2, ih]; rfl
theorem Qnd (w : World) (t : TypeId) (s : ByteArray) : Below w.heap.size w (Go.Lib.bytesWorld w t s) :=
 ⟨rfl, rfl, rfl, by rw [Go.Lib.bytesWorld_size]; omega, fun i hi => Go.Lib.bytesWorld_at_old w t s i hi⟩
theorem bytes_at (w : World) (t : TypeId) (s : ByteArray) : At (Go.Lib.bytesWorld w t s) (some ⟨w.heap.size, 0, none⟩) s.data.toList := by
 refine .inr ⟨_, _, rfl, by rw [Go.Lib.bytesWorld_size]; omega, ?_⟩
 intro j v hv
 rw [flat_map1] at hv
 have hj : j < s.size := by have := (List.getElem?_eq_some_iff.1 hv).1; rwa [List.length_map, Array.length_toList] at this
 rw [Nat.zero_add, Go.Lib.bytesWorld_cell w t s j hj]
 rw [← hv, List.getElem?_map, List.getD_eq_getElem?_getD]
 have : j < s.data.toList.length := by rw [Array.length_toList]; exact hj
 simp [List.getElem?_eq_getElem this]
end Go.Proofs.YtenhcjkkpnlbeaaGreatDoor.Gen
namespace Go.Proofs.YtenhcjkkpnlbeaaGreatDoor.Gen
open ChangeShapes WideShapes ChangeAt RowKit Joins Deep Base
structure En where
  term : Int
  who : Int
  seq : Int
  op : Int
  a : Int
  b : Int
  c : Int
  key : ByteArray
  text : ByteArray
instance : Inhabited En := ⟨⟨0, 0, 0, 0, 0, 0, 0, ⟨#[]⟩, ⟨#[]⟩⟩⟩
instance : Cel En where
  k := 9
  cs x := [.int .i64 x.term, .int .i64 x.who, .int .i64 x.seq, .int .i64 x.op, .int .i64 x.a, .int .i64 x.b, .int .i64 x.c, .string x.key, .string x.text]
  len _ := rfl
  one x u hu := by simp at hu; rcases hu with rfl | rfl | rfl | rfl | rfl | rfl | rfl | rfl | rfl<;>rfl
def En.fit (x : En) : Prop := x.key.size <= 9223372036854775807 /\ x.text.size <= 9223372036854775807
theorem In.getEn {w : World} {b o : Nat} {l : List En} (h : In w b o l) (n : Nat) (hi : n < l.length) :
 w.cell? ⟨b, o + n * 9, none⟩ = some (.int .i64 l[n].term) /\ w.cell? ⟨b, o + n * 9 + 1, none⟩ = some (.int .i64 l[n].who) /\ w.cell? ⟨b, o + n * 9 + 2, none⟩ = some (.int .i64 l[n].seq) /\ w.cell? ⟨b, o + n * 9 + 3, none⟩ = some (.int .i64 l[n].op) /\ w.cell? ⟨b, o + n * 9 + 4, none⟩ = some (.int .i64 l[n].a) /\ w.cell? ⟨b, o + n * 9 + 5, none⟩ = some (.int .i64 l[n].b) /\ w.cell? ⟨b, o + n * 9 + 6, none⟩ = some (.int .i64 l[n].c) /\ w.cell? ⟨b, o + n * 9 + 7, none⟩ = some (.string l[n].key) /\ w.cell? ⟨b, o + n * 9 + 8, none⟩ = some (.string l[n].text) :=
 ⟨h.cell n hi (f := 0) rfl, h.cell n hi (f := 1) rfl, h.cell n hi (f := 2) rfl, h.cell n hi (f := 3) rfl, h.cell n hi (f := 4) rfl, h.cell n hi (f := 5) rfl, h.cell n hi (f := 6) rfl, h.cell n hi (f := 7) rfl, h.cell n hi (f := 8) rfl⟩
theorem infoEn : (Tryz.prog.info? 127).map (fun i => (i.zero, i.size, i.bytes)) = some (some (.agg Qbu), 9, 88) := by kernel_rfl
theorem Qiu (who seq op a b c : Int) (key text : ByteArray) (w : World) :
 Calls Tryz.prog 53 #[.agg (Qa4 who seq op a b c key text), .agg (Qa4 who seq op a b c key text)] w fun e w' => e = .returned (.bool true) /\ Below w.heap.size w w' := by
 go_enter Tryz.func53, Tryz.ntmps53
 go_wp2
 go_ret
 exact ⟨rfl, by repeat (first | exact Below.refl _ _ | assumption | refine via0 (by assumption) ?_ | refine Below.drew ?_ | refine Qab ?_ _)⟩
theorem Qlz (term who seq op a b c : Int) (key text : ByteArray) (w : World) :
 Calls Tryz.prog 148 #[.agg (Qbn term who seq op a b c key text), .agg (Qbn term who seq op a b c key text)] w fun e w' => e = .returned (.bool true) /\ Below w.heap.size w w' := by
 go_enter Tryz.func148, Tryz.ntmps148
 go_wp2_with (go_at_call 53; refine (Qiu _ _ _ _ _ _ _ _ _).mono ?_; rintro e w1 ⟨rfl, g1⟩)
 go_ret
 exact ⟨rfl, by repeat (first | exact Below.refl _ _ | assumption | refine via0 (by assumption) ?_ | refine Below.drew ?_ | refine Qab ?_ _)⟩
theorem Qfr (A A' : Option Addr) (cap cap' : Nat) (l : List En) (hl : l.length <= 9223372036854775807) (w : World) (hA : At w A l) (hA' : At w A' l) :
 Calls Tryz.prog 101 #[.slice A l.length cap, .slice A' l.length cap'] w fun e w' => e = .returned (.bool true) /\ Below w.heap.size w w' := by
 have HA := hidP hA
 have HA' := hidP hA'
 clear hA hA'
 go_enter Tryz.func101, Tryz.ntmps101
 go_wp2
 go_loopw [5] (fun i w' => ∃ (n : Nat), i = .int .i64 (n : Int) /\ n <= l.length /\ Below w.heap.size w w') (fun i _ => l.length - (intOf i).toNat)
 case atStart => exact ⟨0, rfl, by omega, Below.refl _ _⟩
 case round =>
  obtain ⟨n, rfl, hn, hbl⟩ := hrel
  by_cases hlt : n < l.length
  . obtain ⟨b, o, rfl, hbs, hin⟩ : ∃ b o, A = some ⟨b, o, none⟩ /\ b < w.heap.size /\ In w b o l := by
     rcases HA.out with h | h
     . subst h; simp at hlt
     . exact h
    obtain ⟨b', o', rfl, hbs', hin'⟩ : ∃ b o, A' = some ⟨b, o, none⟩ /\ b < w.heap.size /\ In w b o l := by
     rcases HA'.out with h | h
     . subst h; simp at hlt
     . exact h
    obtain ⟨c0, c1, c2, c3, c4, c5, c6, c7, c8⟩ := (hin.below hbs hbl).getEn n hlt
    obtain ⟨d0, d1, d2, d3, d4, d5, d6, d7, d8⟩ := (hin'.below hbs' hbl).getEn n hlt
    have hb1 : b < wr.heap.size := Nat.lt_of_lt_of_le hbs hbl.size
    have hb2 : b' < wr.heap.size := Nat.lt_of_lt_of_le hbs' hbl.size
    have hi0 : (0 : Int) <= (n : Int) := by omega
    have hi1 : (n : Int) < (l.length : Int) := by omega
    go_wp2
    go_region_held3 (fun w' => w'.cell? ⟨b, o + n * 9, none⟩ = some (.int .i64 l[n].term) /\ w'.cell? ⟨b, o + n * 9 + 1, none⟩ = some (.int .i64 l[n].who) /\ w'.cell? ⟨b, o + n * 9 + 2, none⟩ = some (.int .i64 l[n].seq) /\ w'.cell? ⟨b, o + n * 9 + 3, none⟩ = some (.int .i64 l[n].op) /\ w'.cell? ⟨b, o + n * 9 + 4, none⟩ = some (.int .i64 l[n].a) /\ w'.cell? ⟨b, o + n * 9 + 5, none⟩ = some (.int .i64 l[n].b) /\ w'.cell? ⟨b, o + n * 9 + 6, none⟩ = some (.int .i64 l[n].c) /\ w'.cell? ⟨b, o + n * 9 + 7, none⟩ = some (.string l[n].key) /\ w'.cell? ⟨b, o + n * 9 + 8, none⟩ = some (.string l[n].text) /\ w'.cell? ⟨b', o' + n * 9, none⟩ = some (.int .i64 l[n].term) /\ w'.cell? ⟨b', o' + n * 9 + 1, none⟩ = some (.int .i64 l[n].who) /\ w'.cell? ⟨b', o' + n * 9 + 2, none⟩ = some (.int .i64 l[n].seq) /\ w'.cell? ⟨b', o' + n * 9 + 3, none⟩ = some (.int .i64 l[n].op) /\ w'.cell? ⟨b', o' + n * 9 + 4, none⟩ = some (.int .i64 l[n].a) /\ w'.cell? ⟨b', o' + n * 9 + 5, none⟩ = some (.int .i64 l[n].b) /\ w'.cell? ⟨b', o' + n * 9 + 6, none⟩ = some (.int .i64 l[n].c) /\ w'.cell? ⟨b', o' + n * 9 + 7, none⟩ = some (.string l[n].key) /\ w'.cell? ⟨b', o' + n * 9 + 8, none⟩ = some (.string l[n].text) /\ wr.heap.size <= w'.heap.size)
     (first | (go_split_ands; refine ⟨?_, ?_, ?_, ?_, ?_, ?_, ?_, ?_, ?_, ?_, ?_, ?_, ?_, ?_, ?_, ?_, ?_, ?_, ?_⟩<;>first | assumption | exact (k1 _ _ hb1).trans (by assumption) | exact (k1 _ _ hb2).trans (by assumption) | exact s1 | (simp; done)) | go_keep)
     (first
      | (go_at_call 148; refine (Qlz _ _ _ _ _ _ _ _ _ _).mono ?_; rintro e w1 ⟨rfl, g1⟩; obtain ⟨k1, m1⟩ := Qax g1; have s1 := g1.size))
    all_goals
     go_wp2
     exact ⟨⟨n + 1, by go_num, by omega, via0 g1 hbl.drew⟩, by simp [intOf]; omega⟩
  . go_wp2
    go_ret
    exact ⟨rfl, hbl⟩
end Go.Proofs.YtenhcjkkpnlbeaaGreatDoor.Gen
namespace Go.Proofs.YtenhcjkkpnlbeaaGreatDoor.Gen
open ChangeShapes WideShapes ChangeAt RowKit Joins Deep Base
structure Co where
  who : Int
  seq : Int
  op : Int
  a : Int
  b : Int
  c : Int
  key : ByteArray
  text : ByteArray
instance : Inhabited Co := ⟨⟨0, 0, 0, 0, 0, 0, ⟨#[]⟩, ⟨#[]⟩⟩⟩
instance : Cel Co where
  k := 8
  cs x := [.int .i64 x.who, .int .i64 x.seq, .int .i64 x.op, .int .i64 x.a, .int .i64 x.b, .int .i64 x.c, .string x.key, .string x.text]
  len _ := rfl
  one x u hu := by simp at hu; rcases hu with rfl | rfl | rfl | rfl | rfl | rfl | rfl | rfl<;>rfl
def Co.fit (x : Co) : Prop := x.key.size <= 9223372036854775807 /\ x.text.size <= 9223372036854775807
theorem In.getCo {w : World} {b o : Nat} {l : List Co} (h : In w b o l) (n : Nat) (hi : n < l.length) :
 w.cell? ⟨b, o + n * 8, none⟩ = some (.int .i64 l[n].who) /\ w.cell? ⟨b, o + n * 8 + 1, none⟩ = some (.int .i64 l[n].seq) /\ w.cell? ⟨b, o + n * 8 + 2, none⟩ = some (.int .i64 l[n].op) /\ w.cell? ⟨b, o + n * 8 + 3, none⟩ = some (.int .i64 l[n].a) /\ w.cell? ⟨b, o + n * 8 + 4, none⟩ = some (.int .i64 l[n].b) /\ w.cell? ⟨b, o + n * 8 + 5, none⟩ = some (.int .i64 l[n].c) /\ w.cell? ⟨b, o + n * 8 + 6, none⟩ = some (.string l[n].key) /\ w.cell? ⟨b, o + n * 8 + 7, none⟩ = some (.string l[n].text) :=
 ⟨h.cell n hi (f := 0) rfl, h.cell n hi (f := 1) rfl, h.cell n hi (f := 2) rfl, h.cell n hi (f := 3) rfl, h.cell n hi (f := 4) rfl, h.cell n hi (f := 5) rfl, h.cell n hi (f := 6) rfl, h.cell n hi (f := 7) rfl⟩
theorem infoCo : (Tryz.prog.info? 95).map (fun i => (i.zero, i.size, i.bytes)) = some (some (.agg Qba), 8, 80) := by kernel_rfl
theorem Qhi (A A' : Option Addr) (cap cap' : Nat) (l : List Co) (hl : l.length <= 9223372036854775807) (w : World) (hA : At w A l) (hA' : At w A' l) :
 Calls Tryz.prog 18 #[.slice A l.length cap, .slice A' l.length cap'] w fun e w' => e = .returned (.bool true) /\ Below w.heap.size w w' := by
 have HA := hidP hA
 have HA' := hidP hA'
 clear hA hA'
 go_enter Tryz.func18, Tryz.ntmps18
 go_wp2
 go_loopw [5] (fun i w' => ∃ (n : Nat), i = .int .i64 (n : Int) /\ n <= l.length /\ Below w.heap.size w w') (fun i _ => l.length - (intOf i).toNat)
 case atStart => exact ⟨0, rfl, by omega, Below.refl _ _⟩
 case round =>
  obtain ⟨n, rfl, hn, hbl⟩ := hrel
  by_cases hlt : n < l.length
  . obtain ⟨b, o, rfl, hbs, hin⟩ : ∃ b o, A = some ⟨b, o, none⟩ /\ b < w.heap.size /\ In w b o l := by
     rcases HA.out with h | h
     . subst h; simp at hlt
     . exact h
    obtain ⟨b', o', rfl, hbs', hin'⟩ : ∃ b o, A' = some ⟨b, o, none⟩ /\ b < w.heap.size /\ In w b o l := by
     rcases HA'.out with h | h
     . subst h; simp at hlt
     . exact h
    obtain ⟨c0, c1, c2, c3, c4, c5, c6, c7⟩ := (hin.below hbs hbl).getCo n hlt
    obtain ⟨d0, d1, d2, d3, d4, d5, d6, d7⟩ := (hin'.below hbs' hbl).getCo n hlt
    have hb1 : b < wr.heap.size := Nat.lt_of_lt_of_le hbs hbl.size
    have hb2 : b' < wr.heap.size := Nat.lt_of_lt_of_le hbs' hbl.size
    have hi0 : (0 : Int) <= (n : Int) := by omega
    have hi1 : (n : Int) < (l.length : Int) := by omega
    go_wp2
    go_region_held3 (fun w' => w'.cell? ⟨b, o + n * 8, none⟩ = some (.int .i64 l[n].who) /\ w'.cell? ⟨b, o + n * 8 + 1, none⟩ = some (.int .i64 l[n].seq) /\ w'.cell? ⟨b, o + n * 8 + 2, none⟩ = some (.int .i64 l[n].op) /\ w'.cell? ⟨b, o + n * 8 + 3, none⟩ = some (.int .i64 l[n].a) /\ w'.cell? ⟨b, o + n * 8 + 4, none⟩ = some (.int .i64 l[n].b) /\ w'.cell? ⟨b, o + n * 8 + 5, none⟩ = some (.int .i64 l[n].c) /\ w'.cell? ⟨b, o + n * 8 + 6, none⟩ = some (.string l[n].key) /\ w'.cell? ⟨b, o + n * 8 + 7, none⟩ = some (.string l[n].text) /\ w'.cell? ⟨b', o' + n * 8, none⟩ = some (.int .i64 l[n].who) /\ w'.cell? ⟨b', o' + n * 8 + 1, none⟩ = some (.int .i64 l[n].seq) /\ w'.cell? ⟨b', o' + n * 8 + 2, none⟩ = some (.int .i64 l[n].op) /\ w'.cell? ⟨b', o' + n * 8 + 3, none⟩ = some (.int .i64 l[n].a) /\ w'.cell? ⟨b', o' + n * 8 + 4, none⟩ = some (.int .i64 l[n].b) /\ w'.cell? ⟨b', o' + n * 8 + 5, none⟩ = some (.int .i64 l[n].c) /\ w'.cell? ⟨b', o' + n * 8 + 6, none⟩ = some (.string l[n].key) /\ w'.cell? ⟨b', o' + n * 8 + 7, none⟩ = some (.string l[n].text) /\ wr.heap.size <= w'.heap.size)
     (first | (go_split_ands; refine ⟨?_, ?_, ?_, ?_, ?_, ?_, ?_, ?_, ?_, ?_, ?_, ?_, ?_, ?_, ?_, ?_, ?_⟩<;>first | assumption | exact (k1 _ _ hb1).trans (by assumption) | exact (k1 _ _ hb2).trans (by assumption) | exact s1 | (simp; done)) | go_keep)
     (first
      | (go_at_call 53; refine (Qiu _ _ _ _ _ _ _ _ _).mono ?_; rintro e w1 ⟨rfl, g1⟩; obtain ⟨k1, m1⟩ := Qax g1; have s1 := g1.size))
    all_goals
     go_wp2
     exact ⟨⟨n + 1, by go_num, by omega, via0 g1 hbl.drew⟩, by simp [intOf]; omega⟩
  . go_wp2
    go_ret
    exact ⟨rfl, hbl⟩
end Go.Proofs.YtenhcjkkpnlbeaaGreatDoor.Gen
namespace Go.Proofs.YtenhcjkkpnlbeaaGreatDoor.Gen
open ChangeShapes WideShapes ChangeAt RowKit Joins Deep Base
def markEn (z : Int) : En := ⟨z, z + 1, z + 2, z + 3, z + 4, z + 5, z + 6, Items.markZ (z + 7), Items.markZ (z + 8)⟩
def Qbk (n : Nat) (z : Int) : List En := (List.range n).map fun (i : Nat) => markEn (z + (i : Int) * 9)
theorem Qbg (n : Nat) (z : Int) : (Qbk n z).length = n := by simp [Qbk]
theorem Qkx (n : Nat) (z : Int) : Qbk (n + 1) z = Qbk n z ++ [markEn (z + (n : Int) * 9)] := by simp [Qbk, List.range_succ]
theorem Qmm (n : Nat) (z : Int) (i : Nat) (h : i < (Qbk n z).length) : (Qbk n z)[i] = markEn (z + (i : Int) * 9) := by simp [Qbk]
theorem Qky (n : Nat) (k z : Int) (hz : z = k + (n : Int) * 9) :
 flat (Qbk n k) ++ [.int .i64 z] ++ [.int .i64 (z + 1)] ++ [.int .i64 (z + 1 + 1)] ++ [.int .i64 (z + 1 + 1 + 1)] ++ [.int .i64 (z + 1 + 1 + 1 + 1)] ++ [.int .i64 (z + 1 + 1 + 1 + 1 + 1)] ++ [.int .i64 (z + 1 + 1 + 1 + 1 + 1 + 1)] ++ [.string (Items.markZ (z + 1 + 1 + 1 + 1 + 1 + 1 + 1))] ++ [.string (Items.markZ (z + 1 + 1 + 1 + 1 + 1 + 1 + 1 + 1))] = flat (Qbk (n + 1) k) := by
 subst hz
 have e2 : ∀ z : Int, z + 1 + 1 = z + 2 := fun z => by omega
 have e3 : ∀ z : Int, z + 1 + 1 + 1 = z + 3 := fun z => by omega
 have e4 : ∀ z : Int, z + 1 + 1 + 1 + 1 = z + 4 := fun z => by omega
 have e5 : ∀ z : Int, z + 1 + 1 + 1 + 1 + 1 = z + 5 := fun z => by omega
 have e6 : ∀ z : Int, z + 1 + 1 + 1 + 1 + 1 + 1 = z + 6 := fun z => by omega
 have e7 : ∀ z : Int, z + 1 + 1 + 1 + 1 + 1 + 1 + 1 = z + 7 := fun z => by omega
 have e8 : ∀ z : Int, z + 1 + 1 + 1 + 1 + 1 + 1 + 1 + 1 = z + 8 := fun z => by omega
 rw [Qkx, Qbf, Qce, e8, e7, e6, e5, e4, e3, e2]
 simp [Cel.cs, markEn]
theorem Qh5 (b o cap m : Nat) (k : Int) (hk : 1 <= k) (hk' : k <= 100000000) (hm : m <= 3000000) (w : World) (hb : b < w.heap.size) (hth : w.there b o (m * 9)) :
 Calls Tryz.prog 55 #[.slice (some ⟨b, o, none⟩) m cap, .int .i64 k] w fun e w' => e = .returned (.int .i64 (k + (m : Int) * 9)) /\ Only b w w' /\ In w' b o (Qbk m k) /\ w'.there b o (m * 9) := by
 have HT := hidP hth
 clear hth
 go_enter Tryz.func55, Tryz.ntmps55
 go_wp2
 go_loopw [1, 5] (fun kk i w' => ∃ (n : Nat) (z : Int), i = .int .i64 (n : Int) /\ kk = .int .i64 z /\ n <= m /\ 1 <= z /\ z <= 900000000 /\ Only b w w' /\ Hid (z = k + (n : Int) * 9) /\ Hid (In w' b o (Qbk n k)) /\ Hid (w'.there b o (m * 9))) (fun _ i _ => m - (intOf i).toNat)
 case atStart => exact ⟨0, k, rfl, rfl, by omega, hk, by omega, Only.refl _ _, by simp [Hid], In.nil _ _ _, HT.out⟩
 case round =>
  obtain ⟨n, z, rfl, rfl, hn, hz1, hz2, ho, hz, hin, hth⟩ := hrel
  by_cases hlt : n < m
  . obtain ⟨⟨v0, d0⟩, f0⟩ := Qaq (f := 0) hth.out hlt (by omega)
    rw [Nat.add_zero] at d0 f0
    obtain ⟨⟨v1, d1⟩, f1⟩ := Qaq (f := 1) hth.out hlt (by omega)
    obtain ⟨⟨v2, d2⟩, f2⟩ := Qaq (f := 2) hth.out hlt (by omega)
    obtain ⟨⟨v3, d3⟩, f3⟩ := Qaq (f := 3) hth.out hlt (by omega)
    obtain ⟨⟨v4, d4⟩, f4⟩ := Qaq (f := 4) hth.out hlt (by omega)
    obtain ⟨⟨v5, d5⟩, f5⟩ := Qaq (f := 5) hth.out hlt (by omega)
    obtain ⟨⟨v6, d6⟩, f6⟩ := Qaq (f := 6) hth.out hlt (by omega)
    obtain ⟨⟨v7, d7⟩, f7⟩ := Qaq (f := 7) hth.out hlt (by omega)
    obtain ⟨⟨v8, d8⟩, f8⟩ := Qaq (f := 8) hth.out hlt (by omega)
    have q1 : b < wr.heap.size := Nat.lt_of_lt_of_le hb ho.size
    go_wp2_with fail
    refine (Items.markText_at _ (by omega) (by omega) _).mono ?_
    rintro e w1 ⟨rfl, g1⟩
    obtain ⟨k1, m1⟩ := Qax g1
    have q2 : b < w1.heap.size := (by have t1 := g1.size; simp at t1; exact Nat.lt_of_lt_of_le q1 t1)
    go_wp2_with fail
    refine (Items.markText_at _ (by omega) (by omega) _).mono ?_
    rintro e w2 ⟨rfl, g2⟩
    obtain ⟨k2, m2⟩ := Qax g2
    have q3 : b < w2.heap.size := (by have t1 := g2.size; simp at t1; exact Nat.lt_of_lt_of_le q2 t1)
    go_wp2
    have hlen : (flat (Qbk n k)).length = n * 9 := by rw [Qa6, Qbg]; rfl
    have P0 := push (v := .int .i64 z) (q := o + n * 9) ⟨hin.out, hth.out, Nat.lt_of_lt_of_le hb ho.size⟩ (by rw [hlen]; omega) (by rw [hlen])
    have P1 := push (v := .int .i64 (z + 1)) (q := o + n * 9 + 1) P0 (by simp [hlen]; omega) (by simp [hlen]; omega)
    have P2 := push (v := .int .i64 (z + 1 + 1)) (q := o + n * 9 + 1 + 1) P1 (by simp [hlen]; omega) (by simp [hlen]; omega)
    have P3 := push (v := .int .i64 (z + 1 + 1 + 1)) (q := o + n * 9 + 1 + 2) P2 (by simp [hlen]; omega) (by simp [hlen]; omega)
    have P4 := push (v := .int .i64 (z + 1 + 1 + 1 + 1)) (q := o + n * 9 + 1 + 3) P3 (by simp [hlen]; omega) (by simp [hlen]; omega)
    have P5 := push (v := .int .i64 (z + 1 + 1 + 1 + 1 + 1)) (q := o + n * 9 + 1 + 4) P4 (by simp [hlen]; omega) (by simp [hlen]; omega)
    have P6 := push (v := .int .i64 (z + 1 + 1 + 1 + 1 + 1 + 1)) (q := o + n * 9 + 1 + 5) P5 (by simp [hlen]; omega) (by simp [hlen]; omega)
    have P7 := push (v := .string (Items.markZ (z + 1 + 1 + 1 + 1 + 1 + 1 + 1))) (q := o + n * 9 + 1 + 6) (Qdt P6 g1) (by simp [hlen]; omega) (by simp [hlen]; omega)
    have P8 := push (v := .string (Items.markZ (z + 1 + 1 + 1 + 1 + 1 + 1 + 1 + 1))) (q := o + n * 9 + 1 + 7) (Qdt P7 g2) (by simp [hlen]; omega) (by simp [hlen]; omega)
    rw [Qky n k z hz.out] at P8
    have hz' := hz.out
    refine ⟨⟨n + 1, z + 1 + 1 + 1 + 1 + 1 + 1 + 1 + 1 + 1, by go_num, rfl, by omega, by omega, by omega, ?_, by show z + 1 + 1 + 1 + 1 + 1 + 1 + 1 + 1 + 1 = _; omega, P8.1, P8.2.1⟩, by simp [intOf]; omega⟩
    exact ((((((((((ho.set _ _).set _ _).set _ _).set _ _).set _ _).set _ _).set _ _).below g1).set _ _).below g2).set _ _
  . obtain rfl : n = m := by omega
    go_wp2
    go_ret
    have e := hz.out
    subst e
    exact ⟨rfl, ho, hin.out, hth.out⟩
theorem Qe5 (A : Option Addr) (cap m : Nat) (k : Int) (hk : 1 <= k) (hk' : k <= 100000000) (hm : m <= 3000000) (w : World)
 (hA : m = 0 ∨ ∃ b o, A = some ⟨b, o, none⟩ /\ b < w.heap.size /\ In w b o (Qbk m k)) :
 Calls Tryz.prog 63 #[.slice A m cap, .int .i64 k] w fun e w' => e = .returned (.int .i64 (k + (m : Int) * 9)) /\ Below w.heap.size w w' := by
 have HA := hidP hA
 clear hA
 go_enter Tryz.func63, Tryz.ntmps63
 go_wp2
 go_loopw [1, 5] (fun kk i w' => ∃ (n : Nat) (z : Int), i = .int .i64 (n : Int) /\ kk = .int .i64 z /\ n <= m /\ 1 <= z /\ z <= 900000000 /\ Hid (z = k + (n : Int) * 9) /\ Below w.heap.size w w') (fun _ i _ => m - (intOf i).toNat)
 case atStart => exact ⟨0, k, rfl, rfl, by omega, hk, by omega, by simp [Hid], Below.refl _ _⟩
 case round =>
  obtain ⟨n, z, rfl, rfl, hn, hz1, hz2, hz, hbl⟩ := hrel
  by_cases hlt : n < m
  . obtain ⟨b, o, rfl, hbs, hin⟩ : ∃ b o, A = some ⟨b, o, none⟩ /\ b < w.heap.size /\ In w b o (Qbk m k) := by
     rcases HA.out with h | h
     . omega
     . exact h
    have hb1 : b < wr.heap.size := Nat.lt_of_lt_of_le hbs hbl.size
    obtain ⟨c0, c1, c2, c3, c4, c5, c6, c7, c8⟩ : wr.cell? ⟨b, o + n * 9, none⟩ = some (.int .i64 z) /\ wr.cell? ⟨b, o + n * 9 + 1, none⟩ = some (.int .i64 (z + 1)) /\ wr.cell? ⟨b, o + n * 9 + 2, none⟩ = some (.int .i64 (z + 1 + 1)) /\ wr.cell? ⟨b, o + n * 9 + 3, none⟩ = some (.int .i64 (z + 1 + 1 + 1)) /\ wr.cell? ⟨b, o + n * 9 + 4, none⟩ = some (.int .i64 (z + 1 + 1 + 1 + 1)) /\ wr.cell? ⟨b, o + n * 9 + 5, none⟩ = some (.int .i64 (z + 1 + 1 + 1 + 1 + 1)) /\ wr.cell? ⟨b, o + n * 9 + 6, none⟩ = some (.int .i64 (z + 1 + 1 + 1 + 1 + 1 + 1)) /\ wr.cell? ⟨b, o + n * 9 + 7, none⟩ = some (.string (Items.markZ (z + 1 + 1 + 1 + 1 + 1 + 1 + 1))) /\ wr.cell? ⟨b, o + n * 9 + 8, none⟩ = some (.string (Items.markZ (z + 1 + 1 + 1 + 1 + 1 + 1 + 1 + 1))) := by
     have h := (hin.below hbs hbl).getEn n (by rw [Qbg]; exact hlt)
     rw [Qmm] at h
     have e2 : z + 1 + 1 = z + 2 := by omega
     have e3 : z + 1 + 1 + 1 = z + 3 := by omega
     have e4 : z + 1 + 1 + 1 + 1 = z + 4 := by omega
     have e5 : z + 1 + 1 + 1 + 1 + 1 = z + 5 := by omega
     have e6 : z + 1 + 1 + 1 + 1 + 1 + 1 = z + 6 := by omega
     have e7 : z + 1 + 1 + 1 + 1 + 1 + 1 + 1 = z + 7 := by omega
     have e8 : z + 1 + 1 + 1 + 1 + 1 + 1 + 1 + 1 = z + 8 := by omega
     rw [e8, e7, e6, e5, e4, e3, e2, hz.out]
     exact h
    have hi0 : (0 : Int) <= (n : Int) := by omega
    have hi1 : (n : Int) < (m : Int) := by omega
    go_wp2
    go_region_held3 (fun w' => w'.cell? ⟨b, o + n * 9 + 7, none⟩ = some (.string (Items.markZ (z + 1 + 1 + 1 + 1 + 1 + 1 + 1))) /\ w'.cell? ⟨b, o + n * 9 + 8, none⟩ = some (.string (Items.markZ (z + 1 + 1 + 1 + 1 + 1 + 1 + 1 + 1))) /\ b < w'.heap.size)
     (first | (go_split_ands; refine ⟨?_, ?_, ?_⟩<;>first | assumption | exact (k1 _ _ (by assumption)).trans (by assumption) | exact Nat.lt_of_lt_of_le (by assumption) s1 | (simp; done)) | go_keep)
     (first
      | (go_at_call 62; refine (Items.markText_at _ ?_ ?_ _).mono ?_; omega; omega; rintro e w1 ⟨rfl, g1⟩; obtain ⟨k1, m1⟩ := Qax g1; have s1 := g1.size))
    go_split_ands
    go_wp2
    go_region_held3 (fun w' => w'.cell? ⟨b, o + n * 9 + 8, none⟩ = some (.string (Items.markZ (z + 1 + 1 + 1 + 1 + 1 + 1 + 1 + 1))) /\ b < w'.heap.size)
     (first | (go_split_ands; refine ⟨?_, ?_⟩<;>first | assumption | exact (k2 _ _ (by assumption)).trans (by assumption) | exact Nat.lt_of_lt_of_le (by assumption) s2 | (simp; done)) | go_keep)
     (first
      | (go_at_call 62; refine (Items.markText_at _ ?_ ?_ _).mono ?_; omega; omega; rintro e w2 ⟨rfl, g2⟩; obtain ⟨k2, m2⟩ := Qax g2; have s2 := g2.size))
    go_split_ands
    go_wp2
    have hz' := hz.out
    exact ⟨⟨n + 1, z + 1 + 1 + 1 + 1 + 1 + 1 + 1 + 1 + 1, by go_num, rfl, by omega, by omega, by omega, by show z + 1 + 1 + 1 + 1 + 1 + 1 + 1 + 1 + 1 = _; omega, via0 g2 (via0 g1 hbl.drew).drew⟩, by simp [intOf]; omega⟩
  . obtain rfl : n = m := by omega
    go_wp2
    go_ret
    have e := hz.out
    subst e
    exact ⟨rfl, hbl⟩
end Go.Proofs.YtenhcjkkpnlbeaaGreatDoor.Gen
namespace Go.Proofs.YtenhcjkkpnlbeaaGreatDoor.Gen
open ChangeShapes WideShapes ChangeAt RowKit Joins Deep Base
def markCo (z : Int) : Co := ⟨z, z + 1, z + 2, z + 3, z + 4, z + 5, Items.markZ (z + 6), Items.markZ (z + 7)⟩
def Qca (n : Nat) (z : Int) : List Co := (List.range n).map fun (i : Nat) => markCo (z + (i : Int) * 8)
theorem Qcq (n : Nat) (z : Int) : (Qca n z).length = n := by simp [Qca]
theorem Qkz (n : Nat) (z : Int) : Qca (n + 1) z = Qca n z ++ [markCo (z + (n : Int) * 8)] := by simp [Qca, List.range_succ]
theorem Qmn (n : Nat) (z : Int) (i : Nat) (h : i < (Qca n z).length) : (Qca n z)[i] = markCo (z + (i : Int) * 8) := by simp [Qca]
theorem Qk0 (n : Nat) (k z : Int) (hz : z = k + (n : Int) * 8) :
 flat (Qca n k) ++ [.int .i64 z] ++ [.int .i64 (z + 1)] ++ [.int .i64 (z + 1 + 1)] ++ [.int .i64 (z + 1 + 1 + 1)] ++ [.int .i64 (z + 1 + 1 + 1 + 1)] ++ [.int .i64 (z + 1 + 1 + 1 + 1 + 1)] ++ [.string (Items.markZ (z + 1 + 1 + 1 + 1 + 1 + 1))] ++ [.string (Items.markZ (z + 1 + 1 + 1 + 1 + 1 + 1 + 1))] = flat (Qca (n + 1) k) := by
 subst hz
 have e2 : ∀ z : Int, z + 1 + 1 = z + 2 := fun z => by omega
 have e3 : ∀ z : Int, z + 1 + 1 + 1 = z + 3 := fun z => by omega
 have e4 : ∀ z : Int, z + 1 + 1 + 1 + 1 = z + 4 := fun z => by omega
 have e5 : ∀ z : Int, z + 1 + 1 + 1 + 1 + 1 = z + 5 := fun z => by omega
 have e6 : ∀ z : Int, z + 1 + 1 + 1 + 1 + 1 + 1 = z + 6 := fun z => by omega
 have e7 : ∀ z : Int, z + 1 + 1 + 1 + 1 + 1 + 1 + 1 = z + 7 := fun z => by omega
 rw [Qkz, Qbf, Qce, e7, e6, e5, e4, e3, e2]
 simp [Cel.cs, markCo]
theorem Qlc (b o cap m : Nat) (k : Int) (hk : 1 <= k) (hk' : k <= 100000000) (hm : m <= 3000000) (w : World) (hb : b < w.heap.size) (hth : w.there b o (m * 8)) :
 Calls Tryz.prog 23 #[.slice (some ⟨b, o, none⟩) m cap, .int .i64 k] w fun e w' => e = .returned (.int .i64 (k + (m : Int) * 8)) /\ Only b w w' /\ In w' b o (Qca m k) /\ w'.there b o (m * 8) := by
 have HT := hidP hth
 clear hth
 go_enter Tryz.func23, Tryz.ntmps23
 go_wp2
 go_loopw [1, 5] (fun kk i w' => ∃ (n : Nat) (z : Int), i = .int .i64 (n : Int) /\ kk = .int .i64 z /\ n <= m /\ 1 <= z /\ z <= 900000000 /\ Only b w w' /\ Hid (z = k + (n : Int) * 8) /\ Hid (In w' b o (Qca n k)) /\ Hid (w'.there b o (m * 8))) (fun _ i _ => m - (intOf i).toNat)
 case atStart => exact ⟨0, k, rfl, rfl, by omega, hk, by omega, Only.refl _ _, by simp [Hid], In.nil _ _ _, HT.out⟩
 case round =>
  obtain ⟨n, z, rfl, rfl, hn, hz1, hz2, ho, hz, hin, hth⟩ := hrel
  by_cases hlt : n < m
  . obtain ⟨⟨v0, d0⟩, f0⟩ := Qaq (f := 0) hth.out hlt (by omega)
    rw [Nat.add_zero] at d0 f0
    obtain ⟨⟨v1, d1⟩, f1⟩ := Qaq (f := 1) hth.out hlt (by omega)
    obtain ⟨⟨v2, d2⟩, f2⟩ := Qaq (f := 2) hth.out hlt (by omega)
    obtain ⟨⟨v3, d3⟩, f3⟩ := Qaq (f := 3) hth.out hlt (by omega)
    obtain ⟨⟨v4, d4⟩, f4⟩ := Qaq (f := 4) hth.out hlt (by omega)
    obtain ⟨⟨v5, d5⟩, f5⟩ := Qaq (f := 5) hth.out hlt (by omega)
    obtain ⟨⟨v6, d6⟩, f6⟩ := Qaq (f := 6) hth.out hlt (by omega)
    obtain ⟨⟨v7, d7⟩, f7⟩ := Qaq (f := 7) hth.out hlt (by omega)
    have q1 : b < wr.heap.size := Nat.lt_of_lt_of_le hb ho.size
    go_wp2_with fail
    refine (Items.markText_at _ (by omega) (by omega) _).mono ?_
    rintro e w1 ⟨rfl, g1⟩
    obtain ⟨k1, m1⟩ := Qax g1
    have q2 : b < w1.heap.size := (by have t1 := g1.size; simp at t1; exact Nat.lt_of_lt_of_le q1 t1)
    go_wp2_with fail
    refine (Items.markText_at _ (by omega) (by omega) _).mono ?_
    rintro e w2 ⟨rfl, g2⟩
    obtain ⟨k2, m2⟩ := Qax g2
    have q3 : b < w2.heap.size := (by have t1 := g2.size; simp at t1; exact Nat.lt_of_lt_of_le q2 t1)
    go_wp2
    have hlen : (flat (Qca n k)).length = n * 8 := by rw [Qa6, Qcq]; rfl
    have P0 := push (v := .int .i64 z) (q := o + n * 8) ⟨hin.out, hth.out, Nat.lt_of_lt_of_le hb ho.size⟩ (by rw [hlen]; omega) (by rw [hlen])
    have P1 := push (v := .int .i64 (z + 1)) (q := o + n * 8 + 1) P0 (by simp [hlen]; omega) (by simp [hlen]; omega)
    have P2 := push (v := .int .i64 (z + 1 + 1)) (q := o + n * 8 + 2) P1 (by simp [hlen]; omega) (by simp [hlen]; omega)
    have P3 := push (v := .int .i64 (z + 1 + 1 + 1)) (q := o + n * 8 + 3) P2 (by simp [hlen]; omega) (by simp [hlen]; omega)
    have P4 := push (v := .int .i64 (z + 1 + 1 + 1 + 1)) (q := o + n * 8 + 4) P3 (by simp [hlen]; omega) (by simp [hlen]; omega)
    have P5 := push (v := .int .i64 (z + 1 + 1 + 1 + 1 + 1)) (q := o + n * 8 + 5) P4 (by simp [hlen]; omega) (by simp [hlen]; omega)
    have P6 := push (v := .string (Items.markZ (z + 1 + 1 + 1 + 1 + 1 + 1))) (q := o + n * 8 + 6) (Qdt P5 g1) (by simp [hlen]; omega) (by simp [hlen]; omega)
    have P7 := push (v := .string (Items.markZ (z + 1 + 1 + 1 + 1 + 1 + 1 + 1))) (q := o + n * 8 + 7) (Qdt P6 g2) (by simp [hlen]; omega) (by simp [hlen]; omega)
    rw [Qk0 n k z hz.out] at P7
    have hz' := hz.out
    refine ⟨⟨n + 1, z + 1 + 1 + 1 + 1 + 1 + 1 + 1 + 1, by go_num, rfl, by omega, by omega, by omega, ?_, by show z + 1 + 1 + 1 + 1 + 1 + 1 + 1 + 1 = _; omega, P7.1, P7.2.1⟩, by simp [intOf]; omega⟩
    exact ((((((((((ho.set _ _).set _ _).set _ _).set _ _).set _ _).set _ _).below g1).set _ _).below g2).set _ _)
  . obtain rfl : n = m := by omega
    go_wp2
    go_ret
    have e := hz.out
    subst e
    exact ⟨rfl, ho, hin.out, hth.out⟩
theorem Qgg (A : Option Addr) (cap m : Nat) (k : Int) (hk : 1 <= k) (hk' : k <= 100000000) (hm : m <= 3000000) (w : World)
 (hA : m = 0 ∨ ∃ b o, A = some ⟨b, o, none⟩ /\ b < w.heap.size /\ In w b o (Qca m k)) :
 Calls Tryz.prog 28 #[.slice A m cap, .int .i64 k] w fun e w' => e = .returned (.int .i64 (k + (m : Int) * 8)) /\ Below w.heap.size w w' := by
 have HA := hidP hA
 clear hA
 go_enter Tryz.func28, Tryz.ntmps28
 go_wp2
 go_loopw [1, 5] (fun kk i w' => ∃ (n : Nat) (z : Int), i = .int .i64 (n : Int) /\ kk = .int .i64 z /\ n <= m /\ 1 <= z /\ z <= 900000000 /\ Hid (z = k + (n : Int) * 8) /\ Below w.heap.size w w') (fun _ i _ => m - (intOf i).toNat)
 case atStart => exact ⟨0, k, rfl, rfl, by omega, hk, by omega, by simp [Hid], Below.refl _ _⟩
 case round =>
  obtain ⟨n, z, rfl, rfl, hn, hz1, hz2, hz, hbl⟩ := hrel
  by_cases hlt : n < m
  . obtain ⟨b, o, rfl, hbs, hin⟩ : ∃ b o, A = some ⟨b, o, none⟩ /\ b < w.heap.size /\ In w b o (Qca m k) := by
     rcases HA.out with h | h
     . omega
     . exact h
    have hb1 : b < wr.heap.size := Nat.lt_of_lt_of_le hbs hbl.size
    obtain ⟨c0, c1, c2, c3, c4, c5, c6, c7⟩ : wr.cell? ⟨b, o + n * 8, none⟩ = some (.int .i64 z) /\ wr.cell? ⟨b, o + n * 8 + 1, none⟩ = some (.int .i64 (z + 1)) /\ wr.cell? ⟨b, o + n * 8 + 2, none⟩ = some (.int .i64 (z + 1 + 1)) /\ wr.cell? ⟨b, o + n * 8 + 3, none⟩ = some (.int .i64 (z + 1 + 1 + 1)) /\ wr.cell? ⟨b, o + n * 8 + 4, none⟩ = some (.int .i64 (z + 1 + 1 + 1 + 1)) /\ wr.cell? ⟨b, o + n * 8 + 5, none⟩ = some (.int .i64 (z + 1 + 1 + 1 + 1 + 1)) /\ wr.cell? ⟨b, o + n * 8 + 6, none⟩ = some (.string (Items.markZ (z + 1 + 1 + 1 + 1 + 1 + 1))) /\ wr.cell? ⟨b, o + n * 8 + 7, none⟩ = some (.string (Items.markZ (z + 1 + 1 + 1 + 1 + 1 + 1 + 1))) := by
     have h := (hin.below hbs hbl).getCo n (by rw [Qcq]; exact hlt)
     rw [Qmn] at h
     have e2 : z + 1 + 1 = z + 2 := by omega
     have e3 : z + 1 + 1 + 1 = z + 3 := by omega
     have e4 : z + 1 + 1 + 1 + 1 = z + 4 := by omega
     have e5 : z + 1 + 1 + 1 + 1 + 1 = z + 5 := by omega
     have e6 : z + 1 + 1 + 1 + 1 + 1 + 1 = z + 6 := by omega
     have e7 : z + 1 + 1 + 1 + 1 + 1 + 1 + 1 = z + 7 := by omega
     rw [e7, e6, e5, e4, e3, e2, hz.out]
     exact h
    have hi0 : (0 : Int) <= (n : Int) := by omega
    have hi1 : (n : Int) < (m : Int) := by omega
    go_wp2
    go_region_held3 (fun w' => w'.cell? ⟨b, o + n * 8 + 6, none⟩ = some (.string (Items.markZ (z + 1 + 1 + 1 + 1 + 1 + 1))) /\ w'.cell? ⟨b, o + n * 8 + 7, none⟩ = some (.string (Items.markZ (z + 1 + 1 + 1 + 1 + 1 + 1 + 1))) /\ b < w'.heap.size)
     (first | (go_split_ands; refine ⟨?_, ?_, ?_⟩<;>first | assumption | exact (k1 _ _ (by assumption)).trans (by assumption) | exact Nat.lt_of_lt_of_le (by assumption) s1 | (simp; done)) | go_keep)
     (first
      | (go_at_call 62; refine (Items.markText_at _ ?_ ?_ _).mono ?_; omega; omega; rintro e w1 ⟨rfl, g1⟩; obtain ⟨k1, m1⟩ := Qax g1; have s1 := g1.size))
    go_split_ands
    go_wp2
    go_region_held3 (fun w' => w'.cell? ⟨b, o + n * 8 + 7, none⟩ = some (.string (Items.markZ (z + 1 + 1 + 1 + 1 + 1 + 1 + 1))) /\ b < w'.heap.size)
     (first | (go_split_ands; refine ⟨?_, ?_⟩<;>first | assumption | exact (k2 _ _ (by assumption)).trans (by assumption) | exact Nat.lt_of_lt_of_le (by assumption) s2 | (simp; done)) | go_keep)
     (first
      | (go_at_call 62; refine (Items.markText_at _ ?_ ?_ _).mono ?_; omega; omega; rintro e w2 ⟨rfl, g2⟩; obtain ⟨k2, m2⟩ := Qax g2; have s2 := g2.size))
    go_split_ands
    go_wp2
    have hz' := hz.out
    exact ⟨⟨n + 1, z + 1 + 1 + 1 + 1 + 1 + 1 + 1 + 1, by go_num, rfl, by omega, by omega, by omega, by show z + 1 + 1 + 1 + 1 + 1 + 1 + 1 + 1 = _; omega, via0 g2 (via0 g1 hbl.drew).drew⟩, by simp [intOf]; omega⟩
  . obtain rfl : n = m := by omega
    go_wp2
    go_ret
    have e := hz.out
    subst e
    exact ⟨rfl, hbl⟩
end Go.Proofs.YtenhcjkkpnlbeaaGreatDoor.Gen
