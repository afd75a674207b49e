/-
  Lists of Mark records: how they lie, and what the laws' to, sz, eq, mark and held functions of them do. No condition but that there are at most 1048576.
-/
import Derived.Test.YtlcjaabnfdnfmaaGreatDoorBase
import Derived.WalkSpells
import Derived.Lib.ItoaNum
set_option linter.unusedVariables false
set_option linter.unusedSimpArgs false
set_option maxRecDepth 100000
set_option maxHeartbeats 8000000
namespace Go.Proofs.YtlcjaabnfdnfmaaGreatDoor.Gen
open ChangeShapes WideShapes ChangeAt RowKit Joins Deep Base
structure Mk where
  seq : Int
  off : Int
instance : Inhabited Mk := ⟨⟨0, 0⟩⟩
instance : Cel Mk where
  k := 2
  cs x := [.int .i64 x.seq, .int .i64 x.off]
  len _ := rfl
  one x u hu := by simp at hu; rcases hu with rfl | rfl<;>rfl
theorem In.getMk {w : World} {b o : Nat} {l : List Mk} (h : In w b o l) (i : Nat) (hi : i < l.length) :
 w.cell? ⟨b, o + i * 2, none⟩ = some (.int .i64 l[i].seq) /\ w.cell? ⟨b, o + i * 2 + 1, none⟩ = some (.int .i64 l[i].off) :=
 ⟨h.cell i hi (f := 0) rfl, h.cell i hi (f := 1) rfl⟩
theorem infoMk : (Tryz.prog.info? 199).map (fun i => (i.zero, i.size, i.bytes)) = some (some (.agg #[.int .i64 0, .int .i64 0]), 2, 16) := by kernel_rfl
theorem eqMk_same (seq off : Int) (w : World) :
 Calls Tryz.prog 181 #[.agg #[.int .i64 seq, .int .i64 off], .agg #[.int .i64 seq, .int .i64 off]] w fun e w' => e = .returned (.bool true) /\ Below w.heap.size w w' := by
 go_enter Tryz.func181, Tryz.ntmps181
 go_wp2
 go_ret
 exact ⟨rfl, by repeat (first | exact Below.refl _ _ | refine via0 (by assumption) ?_ | refine Below.drew ?_ | refine Qaa ?_ _)⟩
theorem eqMkS_same (A A' : Option Addr) (cap cap' : Nat) (l : List Mk) (hl : l.length <= 9223372036854775807) (w : World) (hA : At w A l) (hA' : At w A' l) :
 Calls Tryz.prog 155 #[.slice A l.length cap, .slice A' l.length cap'] w fun e w' => e = .returned (.bool true) /\ Below w.heap.size w w' := by
 have HA : Hid (At w A l) := hA
 have HA' : Hid (At w A' l) := hA'
 clear hA hA'
 go_enter Tryz.func155, Tryz.ntmps155
 go_wp2
 go_loopw [5] (fun i w' => ∃ (n : Nat), i = .int .i64 (n : Int) /\ n <= l.length /\ Below w.heap.size w w') (fun i _ => l.length - (intOf i).toNat)
 case atStart => exact ⟨0, rfl, by omega, Below.refl _ _⟩
 case round =>
  obtain ⟨n, rfl, hn, hbl⟩ := hrel
  by_cases hlt : n < l.length
  . obtain ⟨b, o, rfl, hbs, hin⟩ : ∃ b o, A = some ⟨b, o, none⟩ /\ b < w.heap.size /\ In w b o l := by
     rcases HA.out with h | h
     . subst h; simp at hlt
     . exact h
    obtain ⟨b', o', rfl, hbs', hin'⟩ : ∃ b o, A' = some ⟨b, o, none⟩ /\ b < w.heap.size /\ In w b o l := by
     rcases HA'.out with h | h
     . subst h; simp at hlt
     . exact h
    obtain ⟨c0, c1⟩ := (hin.below hbs hbl).getMk n hlt
    obtain ⟨d0, d1⟩ := (hin'.below hbs' hbl).getMk n hlt
    have hb1 : b < wr.heap.size := Nat.lt_of_lt_of_le hbs hbl.size
    have hb2 : b' < wr.heap.size := Nat.lt_of_lt_of_le hbs' hbl.size
    have hi0 : (0 : Int) <= (n : Int) := by omega
    have hi1 : (n : Int) < (l.length : Int) := by omega
    go_wp2
    go_region_held3 (fun w' => w'.cell? ⟨b, o + n * 2, none⟩ = some (.int .i64 l[n].seq) /\ w'.cell? ⟨b, o + n * 2 + 1, none⟩ = some (.int .i64 l[n].off) /\ w'.cell? ⟨b', o' + n * 2, none⟩ = some (.int .i64 l[n].seq) /\ w'.cell? ⟨b', o' + n * 2 + 1, none⟩ = some (.int .i64 l[n].off) /\ wr.heap.size <= w'.heap.size)
     (first | (go_split_ands; refine ⟨?_, ?_, ?_, ?_, ?_⟩<;>first | assumption | exact (k1 _ _ hb1).trans (by assumption) | exact (k1 _ _ hb2).trans (by assumption) | exact s1 | (simp; done)) | go_keep)
     (first
      | (go_at_call 181; refine (eqMk_same _ _ _).mono ?_; rintro e w1 ⟨rfl, g1⟩; obtain ⟨k1, m1⟩ := Qaj g1; have s1 := g1.size))
    all_goals
     go_wp2
     exact ⟨⟨n + 1, by go_num, by omega, via0 g1 hbl.drew⟩, by simp [intOf]; omega⟩
  . go_wp2
    go_ret
    exact ⟨rfl, hbl⟩
def markMk (z : Int) : Mk := ⟨z, z + 1⟩
def Qa6 (n : Nat) (z : Int) : List Mk := (List.range n).map fun (i : Nat) => markMk (z + (i : Int) * 2)
theorem Qbb (n : Nat) (z : Int) : (Qa6 n z).length = n := by simp [Qa6]
theorem Qii (n : Nat) (z : Int) : Qa6 (n + 1) z = Qa6 n z ++ [markMk (z + (n : Int) * 2)] := by simp [Qa6, List.range_succ]
theorem Qj3 (n : Nat) (z : Int) (i : Nat) (h : i < (Qa6 n z).length) : (Qa6 n z)[i] = markMk (z + (i : Int) * 2) := by simp [Qa6]
theorem Qij (n : Nat) (k z : Int) (hz : z = k + (n : Int) * 2) :
 flat (Qa6 n k) ++ [.int .i64 (z)] ++ [.int .i64 (z + 1)] = flat (Qa6 (n + 1) k) := by
 subst hz
 rw [Qii, Qa1, Qbp]
 simp [Cel.cs, markMk, Int.add_assoc]
theorem Qka (b o cap m : Nat) (k : Int) (hk : 1 <= k) (hk' : k <= 100000000) (hm : m <= 2000000) (w : World) (hb : b < w.heap.size) (hth : w.there b o (m * 2)) :
 Calls Tryz.prog 121 #[.slice (some ⟨b, o, none⟩) m cap, .int .i64 k] w fun e w' => e = .returned (.int .i64 (k + (m : Int) * 2)) /\ Only b w w' /\ In w' b o (Qa6 m k) /\ w'.there b o (m * 2) := by
 have HT : Hid (w.there b o (m * 2)) := hth
 clear hth
 go_enter Tryz.func121, Tryz.ntmps121
 go_wp2
 go_loopw [1, 5] (fun kk i w' => ∃ (n : Nat) (z : Int), i = .int .i64 (n : Int) /\ kk = .int .i64 z /\ n <= m /\ 1 <= z /\ z <= 900000000 /\ Only b w w' /\ Hid (z = k + (n : Int) * 2) /\ Hid (In w' b o (Qa6 n k)) /\ Hid (w'.there b o (m * 2))) (fun _ i _ => m - (intOf i).toNat)
 case atStart => exact ⟨0, k, rfl, rfl, by omega, hk, by omega, Only.refl _ _, by simp [Hid], fun j v hv => by simp [Qa6, flat] at hv, HT.out⟩
 case round =>
  obtain ⟨n, z, rfl, rfl, hn, hz1, hz2, ho, hz, hin, hth⟩ := hrel
  by_cases hlt : n < m
  . obtain ⟨⟨v0, d0⟩, f0⟩ := Qaf (f := 0) hth.out hlt (by omega)
    obtain ⟨⟨v1, d1⟩, f1⟩ := Qaf (f := 1) hth.out hlt (by omega)
    simp only [Nat.add_zero] at d0 f0
    have q1 : b < wr.heap.size := Nat.lt_of_lt_of_le hb ho.size
    go_wp2
    have hlen : (flat (Qa6 n k)).length = n * 2 := by rw [Qap, Qbb]; rfl
    have P0 := push (v := .int .i64 (z)) (q := o + n * 2) ⟨hin.out, hth.out, q1⟩ (by simp [hlen]; omega) (by simp [hlen])
    have P1 := push (v := .int .i64 (z + 1)) (q := o + n * 2 + 1) P0 (by simp [hlen]; omega) (by simp [hlen]; omega)
    rw [Qij n k z hz.out] at P1
    have hz' := hz.out
    refine ⟨⟨n + 1, z + 1 + 1, by go_num, rfl, by omega, by omega, by omega, ?_, by show z + 1 + 1 = _; omega, P1.1, P1.2.1⟩, by simp [intOf]; omega⟩
    exact (ho.set _ _).set _ _
  . obtain rfl : n = m := by omega
    go_wp2
    go_ret
    have e := hz.out
    subst e
    exact ⟨rfl, ho, hin.out, hth.out⟩
theorem Qiu (A : Option Addr) (cap : Nat) (k : Int) (w : World) :
 Calls Tryz.prog 121 #[.slice A 0 cap, .int .i64 k] w fun e w' => e = .returned (.int .i64 k) /\ w' = w := by
 go_enter Tryz.func121, Tryz.ntmps121
 go_wp2
 go_loopw [1, 5] (fun kk i w' => kk = .int .i64 k /\ i = .int .i64 0 /\ w' = w) (fun _ _ _ => 0)
 case atStart => exact ⟨rfl, rfl, rfl⟩
 case round =>
  obtain ⟨rfl, rfl, rfl⟩ := hrel
  go_wp2
  go_ret
  exact ⟨rfl, rfl⟩
theorem Qkj (A : Option Addr) (cap m : Nat) (k : Int) (hk : 1 <= k) (hk' : k <= 100000000) (hm : m <= 2000000) (w : World)
 (hA : m = 0 ∨ ∃ b o, A = some ⟨b, o, none⟩ /\ b < w.heap.size /\ In w b o (Qa6 m k)) :
 Calls Tryz.prog 123 #[.slice A m cap, .int .i64 k] w fun e w' => e = .returned (.int .i64 (k + (m : Int) * 2)) /\ w' = w := by
 have HA : Hid (m = 0 ∨ ∃ b o, A = some ⟨b, o, none⟩ /\ b < w.heap.size /\ In w b o (Qa6 m k)) := hA
 clear hA
 go_enter Tryz.func123, Tryz.ntmps123
 go_wp2
 go_loopw [1, 5] (fun kk i w' => ∃ (n : Nat) (z : Int), i = .int .i64 (n : Int) /\ kk = .int .i64 z /\ n <= m /\ 1 <= z /\ z <= 900000000 /\ Hid (z = k + (n : Int) * 2) /\ w' = w) (fun _ i _ => m - (intOf i).toNat)
 case atStart => exact ⟨0, k, rfl, rfl, by omega, hk, by omega, by simp [Hid], rfl⟩
 case round =>
  obtain ⟨n, z, rfl, rfl, hn, hz1, hz2, hz, rfl⟩ := hrel
  by_cases hlt : n < m
  . obtain ⟨b, o, rfl, hbs, hin⟩ : ∃ b o, A = some ⟨b, o, none⟩ /\ b < wr.heap.size /\ In wr b o (Qa6 m k) := by
     rcases HA.out with h | h
     . omega
     . exact h
    obtain ⟨c0, c1⟩ : wr.cell? ⟨b, o + n * 2, none⟩ = some (.int .i64 (z)) /\ wr.cell? ⟨b, o + n * 2 + 1, none⟩ = some (.int .i64 (z + 1)) := by
     have h := hin.getMk n (by rw [Qbb]; exact hlt)
     rw [Qj3] at h
     rw [hz.out]
     exact h
    have hi0 : (0 : Int) <= (n : Int) := by omega
    have hi1 : (n : Int) < (m : Int) := by omega
    go_wp2
    have hz' := hz.out
    exact ⟨⟨n + 1, z + 1 + 1, by go_num, rfl, by omega, by omega, by omega, by show z + 1 + 1 = _; omega, by first | rfl | trivial⟩, by simp [intOf]; omega⟩
  . obtain rfl : n = m := by omega
    go_wp2
    go_ret
    have e := hz.out
    subst e
    exact ⟨rfl, rfl⟩
end Go.Proofs.YtlcjaabnfdnfmaaGreatDoor.Gen
namespace Go.Proofs.YtlcjaabnfdnfmaaGreatDoor.Gen
open ChangeShapes WideShapes ChangeAt RowKit Joins Deep Base
theorem Qjg (row who epoch last : Int) (A A' : Option Addr) (cap cap' : Nat) (l : List Mk) (hl : l.length <= 9223372036854775807) (w : World) (hA : At w A l) (hA' : At w A' l) :
 Calls Tryz.prog 117 #[.agg #[.int .i64 row, .int .i64 who, .int .i64 epoch, .int .i64 last, .slice A l.length cap], .agg #[.int .i64 row, .int .i64 who, .int .i64 epoch, .int .i64 last, .slice A' l.length cap']] w fun e w' => e = .returned (.bool true) /\ Below w.heap.size w w' := by
 have HA : Hid (∀ W : World, Below w.heap.size w W -> At W A l) := fun W hW => hA.below hW
 have HA' : Hid (∀ W : World, Below w.heap.size w W -> At W A' l) := fun W hW => hA'.below hW
 clear hA hA'
 go_enter Tryz.func117, Tryz.ntmps117
 go_wp2_with (go_at_call 155; refine (eqMkS_same A A' cap cap' l hl _ (HA.out _ ?_) (HA'.out _ ?_)).mono ?_; (repeat (first | exact Below.refl _ _ | assumption | refine via0 (by assumption) ?_ | refine Below.drew ?_ | refine Qaa ?_ _)); (repeat (first | exact Below.refl _ _ | assumption | refine via0 (by assumption) ?_ | refine Below.drew ?_ | refine Qaa ?_ _)); rintro e w1 ⟨rfl, g1⟩)
 go_ret
 refine ⟨rfl, ?_⟩
 repeat (first | exact Below.refl _ _ | assumption | refine via0 (by assumption) ?_ | refine Below.drew ?_ | refine Qaa ?_ _)
end Go.Proofs.YtlcjaabnfdnfmaaGreatDoor.Gen
namespace Go.Proofs.YtlcjaabnfdnfmaaGreatDoor.Gen
open ChangeShapes WideShapes ChangeAt RowKit Joins Deep Base
structure MC where
  row : Int
  who : Int
  epoch : Int
  last : Int
  A : Option Addr
  cap : Nat
  ms : List Mk
instance : Inhabited MC := ⟨⟨0, 0, 0, 0, none, 0, []⟩⟩
instance : Cel MC where
  k := 5
  cs x := [.int .i64 x.row, .int .i64 x.who, .int .i64 x.epoch, .int .i64 x.last, .slice x.A x.ms.length x.cap]
  len _ := rfl
  one x u hu := by simp at hu; rcases hu with rfl | rfl | rfl | rfl | rfl<;>rfl
structure PM where
  row : Int
  who : Int
  epoch : Int
  last : Int
  ms : List Mk
def MC.p (x : MC) : PM := ⟨x.row, x.who, x.epoch, x.last, x.ms⟩
def Each (w : World) (l : List MC) : Prop := ∀ x ∈ l, At w x.A x.ms
theorem Each.below {w w' : World} {l : List MC} (h : Each w l) (hw : Below w.heap.size w w') : Each w' l := fun x hx => (h x hx).below hw
theorem In.getMC {w : World} {b o : Nat} {l : List MC} (h : In w b o l) (i : Nat) (hi : i < l.length) :
 w.cell? ⟨b, o + i * 5, none⟩ = some (.int .i64 l[i].row) /\ w.cell? ⟨b, o + i * 5 + 1, none⟩ = some (.int .i64 l[i].who) /\ w.cell? ⟨b, o + i * 5 + 2, none⟩ = some (.int .i64 l[i].epoch) /\
  w.cell? ⟨b, o + i * 5 + 3, none⟩ = some (.int .i64 l[i].last) /\ w.cell? ⟨b, o + i * 5 + 4, none⟩ = some (.slice l[i].A l[i].ms.length l[i].cap) :=
 ⟨h.cell i hi (f := 0) rfl, h.cell i hi (f := 1) rfl, h.cell i hi (f := 2) rfl, h.cell i hi (f := 3) rfl, h.cell i hi (f := 4) rfl⟩
theorem infoMC : (Tryz.prog.info? 139).map (fun i => (i.zero, i.size, i.bytes)) = some (some (.agg #[.int .i64 0, .int .i64 0, .int .i64 0, .int .i64 0, .slice none 0 0]), 5, 56) := by kernel_rfl
theorem Qhe (A A' : Option Addr) (cap cap' : Nat) (l l' : List MC) (hl : l.length <= 9223372036854775807) (hr : ∀ x ∈ l, x.ms.length <= 9223372036854775807) (hsame : l'.map MC.p = l.map MC.p) (w : World) (hA : At w A l) (hE : Each w l) (hA' : At w A' l') (hE' : Each w l') :
 Calls Tryz.prog 58 #[.slice A l.length cap, .slice A' l.length cap'] w fun e w' => e = .returned (.bool true) /\ Below w.heap.size w w' := by
 have HA := hidP hA
 have HE := hidP hE
 have HA' := hidP hA'
 have HE' := hidP hE'
 have Hr := hidP hr
 have HS := hidP hsame
 have HLL : Hid (l'.length = l.length) := by have := congrArg List.length hsame; show _ = _; simpa using this
 clear hA hE hA' hE' hr hsame
 go_enter Tryz.func58, Tryz.ntmps58
 go_wp2
 go_loopw [5] (fun i w' => ∃ (n : Nat), i = .int .i64 (n : Int) /\ n <= l.length /\ Below w.heap.size w w') (fun i _ => l.length - (intOf i).toNat)
 case atStart => exact ⟨0, rfl, by omega, Below.refl _ _⟩
 case round =>
  obtain ⟨n, rfl, hn, hbl⟩ := hrel
  by_cases hlt : n < l.length
  . have hll := HLL.out
    obtain ⟨b, o, rfl, hbs, hin⟩ : ∃ b o, A = some ⟨b, o, none⟩ /\ b < w.heap.size /\ In w b o l := by
     rcases HA.out with h | h
     . subst h; simp at hlt
     . exact h
    obtain ⟨b', o', rfl, hbs', hin'⟩ : ∃ b o, A' = some ⟨b, o, none⟩ /\ b < w.heap.size /\ In w b o l' := by
     rcases HA'.out with h | h
     . subst h; simp at hll; omega
     . exact h
    have hp : (l'[n]'(by omega)).p = l[n].p := by
     have h1 : (l'.map MC.p)[n]'(by simp; omega) = (l.map MC.p)[n]'(by simpa using hlt) := by simp only [HS.out]
     simpa using h1
    obtain ⟨c0, c1, c2, c3, c4⟩ := (hin.below hbs hbl).getMC n hlt
    obtain ⟨d0, d1, d2, d3, d4⟩ := (hin'.below hbs' hbl).getMC n (by omega)
    have hx := (HE.out _ (List.getElem_mem hlt)).below hbl
    have hx' := (HE'.out _ (List.getElem_mem (show n < l'.length by omega))).below hbl
    have hmsl := Hr.out _ (List.getElem_mem hlt)
    rw [show (l'[n]'(by omega)).row = l[n].row from congrArg PM.row hp] at d0
    rw [show (l'[n]'(by omega)).who = l[n].who from congrArg PM.who hp] at d1
    rw [show (l'[n]'(by omega)).epoch = l[n].epoch from congrArg PM.epoch hp] at d2
    rw [show (l'[n]'(by omega)).last = l[n].last from congrArg PM.last hp] at d3
    rw [show (l'[n]'(by omega)).ms = l[n].ms from congrArg PM.ms hp] at d4 hx'
    generalize (l'[n]'(by omega)).A = aa at d4 hx'
    generalize (l'[n]'(by omega)).cap = cc at d4
    generalize l[n] = x at c0 c1 c2 c3 c4 d0 d1 d2 d3 d4 hx hx' hmsl
    obtain ⟨row, who, epoch, last, xA, xc, ms⟩ := x
    simp only at c0 c1 c2 c3 c4 d0 d1 d2 d3 d4 hx hx' hmsl
    have hx := hidP hx
    have hx' := hidP hx'
    clear hp hll
    have hb1 : b < wr.heap.size := Nat.lt_of_lt_of_le hbs hbl.size
    have hb2 : b' < wr.heap.size := Nat.lt_of_lt_of_le hbs' hbl.size
    have hi0 : (0 : Int) <= (n : Int) := by omega
    have hi1 : (n : Int) < (l.length : Int) := by omega
    go_wp2
    go_region_held3 (fun w' => w'.cell? ⟨b, o + n * 5, none⟩ = some (.int .i64 row) /\ w'.cell? ⟨b, o + n * 5 + 1, none⟩ = some (.int .i64 who) /\ w'.cell? ⟨b, o + n * 5 + 2, none⟩ = some (.int .i64 epoch) /\ w'.cell? ⟨b, o + n * 5 + 3, none⟩ = some (.int .i64 last) /\ w'.cell? ⟨b, o + n * 5 + 4, none⟩ = some (.slice xA ms.length xc) /\
     w'.cell? ⟨b', o' + n * 5, none⟩ = some (.int .i64 row) /\ w'.cell? ⟨b', o' + n * 5 + 1, none⟩ = some (.int .i64 who) /\ w'.cell? ⟨b', o' + n * 5 + 2, none⟩ = some (.int .i64 epoch) /\ w'.cell? ⟨b', o' + n * 5 + 3, none⟩ = some (.int .i64 last) /\ w'.cell? ⟨b', o' + n * 5 + 4, none⟩ = some (.slice aa ms.length cc))
     (first | (go_split_ands; refine ⟨?_, ?_, ?_, ?_, ?_, ?_, ?_, ?_, ?_, ?_⟩<;>first | assumption | exact (k1 _ _ hb1).trans (by assumption) | exact (k1 _ _ hb2).trans (by assumption)) | go_keep)
     (first
      | (go_at_call 117; refine (Qjg row who epoch last xA aa xc cc ms hmsl _ (hx.out.below (Below.drew (Below.refl _ _))) (hx'.out.below (Below.drew (Below.refl _ _)))).mono ?_; rintro e w1 ⟨rfl, g1⟩; obtain ⟨k1, m1⟩ := Qaj g1))
    all_goals
     go_wp2
     exact ⟨⟨n + 1, by go_num, by omega, via0 g1 hbl.drew⟩, by simp [intOf]; omega⟩
  . go_wp2
    go_ret
    exact ⟨rfl, hbl⟩
end Go.Proofs.YtlcjaabnfdnfmaaGreatDoor.Gen
namespace Go.Proofs.YtlcjaabnfdnfmaaGreatDoor.Items
open ChangeShapes WideShapes ChangeAt RowKit Base
def Qdi (u : Nat) (out : List UInt8) : List UInt8 := if u = 0 then out else Lib.decDigits u ++ out
theorem Qhn (u : Nat) (hu : u ≠ 0) (out : List UInt8) : Qdi u out = Qdi (u / 10) (UInt8.ofNat (48 + u % 10) :: out) := by
 unfold Qdi
 rw [if_neg hu]
 by_cases h : u < 10
 . have h0 : u / 10 = 0 := by omega
   have h1 : u % 10 = u := by omega
   rw [h0, if_pos rfl, Lib.decDigits_one h, h1]; rfl
 . have h0 : u / 10 ≠ 0 := by omega
   rw [if_neg h0, Lib.decDigits, dif_neg h, List.append_assoc]; rfl
theorem conv1 (w : World) (x : Int) :
 (convert 37 9 (.slice (some ⟨w.heap.size, 0, none⟩) 1 1)).run Tryz.prog (w.alloc (.cells #[.int .u8 x] 5)) = .ok (.string ⟨#[UInt8.ofNat x.toNat]⟩) (w.alloc (.cells #[.int .u8 x] 5)) := by
 rw [run_convert_bytes_arg (w.alloc (.cells #[.int .u8 x] 5)) 37 5 Tryz.underlying37 Tryz.underlying5 w.heap.size 0 1 1 [x] rfl (fun i hi => by
  obtain rfl : i = 0 := by omega
  simp) 9 Tryz.underlying9]
 rfl
theorem cat1 (x : Nat) (out : List UInt8) : (Value.string ((⟨#[48 + UInt8.ofNat x]⟩ : ByteArray) ++ ⟨out.toArray⟩)) = .string ⟨(UInt8.ofNat (48 + x) :: out).toArray⟩ := by
 congr 1
 apply ByteArray.ext
 simp [ByteArray.data_append]
theorem cut10 (u j n : Nat) (hu : u ≠ 0) (h : u < 10 ^ j) (hn : n + j = 19) : n <= 18 /\ u / 10 < 10 ^ (j - 1) /\ n + 1 + (j - 1) = 19 := by
 cases j with
 | zero => simp at h; omega
 | succ j => rw [Nat.pow_succ] at h; simp; omega
def markT (k : Nat) : ByteArray := ⟨(109 :: Lib.decDigits k).toArray⟩
theorem Qiq (u0 : Nat) (h0 : u0 ≠ 0) (hlt : u0 <= 1000000000) (w : World) :
    Calls Tryz.prog 70 #[.int .i64 (u0 : Int)] w fun e w' => e = .returned (.string (markT u0)) /\ Below w.heap.size w w' := by
  have hn : ¬ (u0 : Int) <= 0 := by omega
  go_enter Tryz.func70, Tryz.ntmps70
  go_wp2
  go_loopw [0, 3] (fun n o w' => ∃ (u j : Nat) (out : List UInt8), n = .int .i64 (u : Int) /\ o = .string ⟨out.toArray⟩ /\ Hid (u < 10 ^ j /\ out.length + j = 19 /\ Qdi u out = Lib.decDigits u0) /\ u <= u0 /\ Below w.heap.size w w') (fun n _ _ => (intOf n).toNat)
  case atStart => exact ⟨u0, 19, [], rfl, rfl, ⟨by have : (10 : Nat) ^ 19 = 10000000000000000000 := by decide
                                                   omega, rfl, by simp [Qdi, h0]⟩, Nat.le_refl _, Below.refl _ _⟩
  case round =>
   obtain ⟨u, j, out, rfl, rfl, HH, hle, hbl⟩ := hrel
   by_cases hz : u = 0
   . have hz' : ¬ (u : Int) > 0 := by omega
     have hc : out.length <= 19 := by have := HH.out.2.1; omega
     go_wp2
     go_ret
     obtain ⟨_, _, hE⟩ := HH.out
     refine ⟨?_, hbl⟩
     rw [markT, ← hE, Qdi, if_pos hz]; rfl
   . have hz' : (u : Int) > 0 := by omega
     have hconv := conv1
     have hc : out.length <= 18 := (cut10 u j _ hz HH.out.1 HH.out.2.1).1
     go_wp2
     obtain ⟨a1, a2, a3⟩ := HH.out
     obtain ⟨b1, b2, b3⟩ := cut10 u j _ hz a1 a2
     refine ⟨⟨u / 10, j - 1, UInt8.ofNat (48 + u % 10) :: out, by go_num, cat1 _ _, ⟨b2, by simp; omega, by rw [← Qhn u hz]; exact a3⟩, by omega, hbl.alloc hbl.size _⟩, ?_⟩
     simp [intOf]; omega
def markZ (z : Int) : ByteArray := markT z.toNat
theorem markText_at (z : Int) (h1 : 1 <= z) (h2 : z <= 1000000000) (w : World) :
 Calls Tryz.prog 70 #[.int .i64 z] w fun e w' => e = .returned (.string (markZ z)) /\ Below w.heap.size w w' := by
 have e : ((z.toNat : Nat) : Int) = z := by omega
 have := Qiq z.toNat (by omega) (by omega) w
 rw [e] at this
 exact this
end Go.Proofs.YtlcjaabnfdnfmaaGreatDoor.Items
