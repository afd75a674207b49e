/-
  What is drawn from bytes: the cursor and its functions. No condition but that there are at most 1048576 bytes.
-/
import Derived.Test.YtjmaifmcoepfdaaGen
namespace Go.Proofs.Ytjmaifmcoepfdaa.Gen
open Go.ChangeShapes Go.WideShapes Go.ChangeAt Go.RowKit Go.Joins Go.Deep Base
set_option linter.unusedVariables false
set_option linter.unusedSimpArgs false

structure By where
  n : Int
instance : Inhabited By := ⟨⟨0⟩⟩
instance : Cel By where
  k := 1
  cs x := [.int .u8 x.n]
  len _ := rfl
  one x u hu := by simp at hu; subst hu; rfl
def By.right (x : By) : Prop := 0 ≤ x.n ∧ x.n ≤ 255
theorem In.getBy {w : World} {b o : Nat} {l : List By} (h : In w b o l) (i : Nat) (hi : i < l.length) : w.cell? ⟨b, o + i, none⟩ = some (.int .u8 l[i].n) := by
  have := h.cell i hi (f := 0) rfl
  rwa [show (Cel.k By) = 1 from rfl, Nat.mul_one, Nat.add_zero] at this

/-- The cursor at block C over the bytes l. -/
structure Drawn (W : World) (C : Nat) (A : Option Addr) (cap : Nat) (l : List By) : Prop where
  cur : ∃ (i : Nat) (h : Int), i ≤ l.length ∧ Blk W C 83 #[.slice A l.length cap, .int .i64 (i : Int), .int .i64 h]
  code : l = [] ∨ ∃ b o, A = some ⟨b, o, none⟩ ∧ b < C ∧ In W b o l
  len : l.length ≤ 1048576
  byte : ∀ x ∈ l, x.right
theorem Drawn.lt {W : World} {C cap : Nat} {A : Option Addr} {l : List By} (h : Drawn W C A cap l) : C < W.heap.size := by
  obtain ⟨i, x, _, hb⟩ := h.cur
  exact hb.lt
theorem Drawn.below {W W' : World} {C cap : Nat} {A : Option Addr} {l : List By} (h : Drawn W C A cap l) (g : Below W.heap.size W W') : Drawn W' C A cap l := by
  have hlt := h.lt
  refine ⟨?_, h.code.imp id fun ⟨b, o, e, hb, hi⟩ => ⟨b, o, e, hb, hi.below (by omega) g⟩, h.len, h.byte⟩
  obtain ⟨i, x, hi, hb⟩ := h.cur
  exact ⟨i, x, hi, hb.below g hb.lt⟩
theorem Drawn.only {W W' : World} {C cap c : Nat} {A : Option Addr} {l : List By} (h : Drawn W C A cap l) (k : Only c W W') (hc : C < c) : Drawn W' C A cap l := by
  have hlt := h.lt
  refine ⟨?_, h.code.imp id fun ⟨b, o, e, hb, hi⟩ => ⟨b, o, e, hb, hi.only k (by omega) (by omega)⟩, h.len, h.byte⟩
  obtain ⟨i, x, hi, hb⟩ := h.cur
  exact ⟨i, x, hi, hb.only k (by omega)⟩
theorem Only.trans {c : Nat} {a b d : World} (h : Only c a b) (k : Only c b d) : Only c a d :=
  ⟨k.os.trans h.os, k.tape.trans h.tape, k.output.trans h.output, Nat.le_trans h.size k.size, fun i hi hb => (k.block i (Nat.lt_of_lt_of_le hi h.size) hb).trans (h.block i hi hb)⟩
theorem Only.of_below {c : Nat} {a b : World} (h : Below a.heap.size a b) : Only c a b := (Only.refl c a).below h
theorem Only.drew {c : Nat} {a b : World} (h : Only c a b) : Only c a b.drew := ⟨h.os, h.tape, h.output, h.size, h.block⟩

theorem and255 (x : Int) : 0 ≤ bits .and .i64 x 255 ∧ bits .and .i64 x 255 ≤ 255 := by
  have h : (BitVec.ofInt 64 x &&& BitVec.ofInt 64 255).toNat ≤ 255 := by rw [BitVec.toNat_and]; exact Nat.le_trans Nat.and_le_right (by decide)
  show 0 ≤ IntKind.i64.wrap (((BitVec.ofInt 64 x &&& BitVec.ofInt 64 255).toNat : Nat) : Int) ∧ IntKind.i64.wrap (((BitVec.ofInt 64 x &&& BitVec.ofInt 64 255).toNat : Nat) : Int) ≤ 255
  generalize (BitVec.ofInt 64 x &&& BitVec.ofInt 64 255).toNat = m at *
  rw [IntKind.wrap_i64]
  omega

set_option maxRecDepth 100000 in
set_option maxHeartbeats 1000000 in
theorem byte_any (C : Nat) (A : Option Addr) (cap : Nat) (l : List By) (w : World) (hD : Drawn w C A cap l) :
    Calls Try.prog 68 #[.pointer (some ⟨C, 0, none⟩)] w fun e w' => ∃ x : Int, e = .returned (.int .i64 x) ∧ 0 ≤ x ∧ x ≤ 255 ∧ Only C w w' ∧ Drawn w' C A cap l := by
  obtain ⟨⟨i, h, hi, p⟩, hcode, hlen, hby⟩ := hD
  have Hcode := hidP hcode
  have Hby := hidP hby
  clear hcode hby
  obtain ⟨c0, c1, c2⟩ := p.row3
  have f1 := p.thaw 1
  have f2 := p.thaw 2
  go_enter Try.func68, Try.ntmps68
  go_wp2_with fail
  have P1 : Blk _ C 83 #[.slice A l.length cap, .int .i64 (i : Int), .int .i64 (wrap64 (wrap64 (h * 6364136223846793005) + 1442695040888963407))] := p.setAt 2 (.int .i64 (wrap64 (wrap64 (h * 6364136223846793005) + 1442695040888963407)))
  have O1 := hidP ((Only.refl C w).set 2 (.int .i64 (wrap64 (wrap64 (h * 6364136223846793005) + 1442695040888963407))))
  have C1 : Hid (l = [] ∨ ∃ b o, A = some ⟨b, o, none⟩ ∧ b < C ∧ In (w.setCell ⟨C, 2, none⟩ (.int .i64 (wrap64 (wrap64 (h * 6364136223846793005) + 1442695040888963407)))) b o l) := Hcode.out.imp id fun ⟨b, o, e, hb, hi⟩ => ⟨b, o, e, hb, hi.set ⟨C, 2, none⟩ _ (Nat.ne_of_gt hb)⟩
  generalize wrap64 (wrap64 (h * 6364136223846793005) + 1442695040888963407) = h' at *
  generalize w.setCell ⟨C, 2, none⟩ (.int .i64 h') = W1 at *
  clear c0 c1 c2 f1 f2 p Hcode
  obtain ⟨c0, c1, c2⟩ := P1.row3
  have f1 := P1.thaw 1
  have hq := P1.lt
  go_region_held3 (fun w' => w'.cell? ⟨C, 0, none⟩ = some (.slice A l.length cap) ∧ w'.cell? ⟨C, 1, none⟩ = some (.int .i64 (i : Int)) ∧ w'.cell? ⟨C, 2, none⟩ = some (.int .i64 h')) (first | exact ⟨c0, c1, c2⟩ | go_keep) (fail)
  obtain ⟨x, hx⟩ : ∃ x, x = bits BinOp.and IntKind.i64 (bits BinOp.xor IntKind.i64 (h' / 8589934592) (h' / 35184372088832)) 255 := ⟨_, rfl⟩
  have hx0 := and255 (bits BinOp.xor IntKind.i64 (h' / 8589934592) (h' / 35184372088832))
  rw [← hx] at hx0
  rw [← hx]
  clear hx
  go_wp2_with fail
  have hi0 : (0 : Int) ≤ (i : Int) := by omega
  by_cases hlt : i < l.length
  · have hi1 : (i : Int) < (l.length : Int) := by omega
    obtain ⟨b, o, rfl, hb, hin⟩ : ∃ b o, A = some ⟨b, o, none⟩ ∧ b < C ∧ In W1 b o l := C1.out.resolve_left (fun h => by rw [h] at hlt; simp at hlt)
    have cx := hin.getBy i hlt
    have hby := Hby.out l[i] (List.getElem_mem hlt)
    obtain ⟨hb0, hb1⟩ := hby
    generalize hy : l[i].n = y at *
    clear hy
    go_region_held3 (fun w' => w'.cell? ⟨C, 0, none⟩ = some (.slice (some ⟨b, o, none⟩) l.length cap) ∧ w'.cell? ⟨C, 1, none⟩ = some (.int .i64 (i : Int)) ∧ w'.cell? ⟨C, 2, none⟩ = some (.int .i64 h')) (first | exact ⟨c0, c1, c2⟩ | go_keep) (fail)
    go_wp2_with fail
    go_region_held3 (fun w' => w'.cell? ⟨C, 0, none⟩ = some (.slice (some ⟨b, o, none⟩) l.length cap) ∧ w'.cell? ⟨C, 1, none⟩ = some (.int .i64 (i : Int)) ∧ w'.cell? ⟨C, 2, none⟩ = some (.int .i64 h') ∧ w'.cell? ⟨b, o + i, none⟩ = some (.int .u8 y)) (first | exact ⟨c0, c1, c2, cx⟩ | go_keep) (fail)
    have hx1 := and255 (IntKind.i64.wrap (x + IntKind.i64.wrap y))
    generalize bits BinOp.and IntKind.i64 (IntKind.i64.wrap (x + IntKind.i64.wrap y)) 255 = x1 at *
    have P2 := P1.drew.drew.drew
    have O2 : Hid (Only C w W1.drew.drew.drew) := O1.out.drew.drew.drew
    have C2 : Hid (l = [] ∨ ∃ b' o', some (⟨b, o, none⟩ : Addr) = some ⟨b', o', none⟩ ∧ b' < C ∧ In W1.drew.drew.drew b' o' l) := C1.out
    generalize W1.drew.drew.drew = W2 at *
    clear c0 c1 c2 f1 cx hin
    obtain ⟨c0, c1, c2⟩ := P2.row3
    have f1 := P2.thaw 1
    have hi2 : (i : Int) ≤ 1048576 := by omega
    go_wp2
    go_ret
    have P3 : Blk _ C 83 #[.slice (some ⟨b, o, none⟩) l.length cap, .int .i64 ((i + 1 : Nat) : Int), .int .i64 h'] := P2.setAt 1 (.int .i64 ((i + 1 : Nat) : Int))
    exact ⟨x1, rfl, hx1.1, hx1.2, O2.out.set _ _, ⟨i + 1, h', by omega, P3⟩, C2.out.imp id fun ⟨b', o', e, hb', hi'⟩ => ⟨b', o', e, hb', hi'.set ⟨C, 1, none⟩ _ (Nat.ne_of_gt hb')⟩, hlen, Hby.out⟩
  · go_region_held3 (fun w' => w'.cell? ⟨C, 0, none⟩ = some (.slice A l.length cap) ∧ w'.cell? ⟨C, 1, none⟩ = some (.int .i64 (i : Int)) ∧ w'.cell? ⟨C, 2, none⟩ = some (.int .i64 h')) (first | exact ⟨c0, c1, c2⟩ | go_keep) (fail)
    go_wp2
    go_ret
    exact ⟨x, rfl, hx0.1, hx0.2, O1.out.drew.drew, ⟨i, h', hi, P1.drew.drew⟩, C1.out, hlen, Hby.out⟩

/-- A number below n. -/
theorem below_any (C : Nat) (A : Option Addr) (cap : Nat) (l : List By) (n : Int) (h1 : 1 ≤ n) (h2 : n ≤ 256) (w : World) (hD : Drawn w C A cap l) :
    Calls Try.prog 49 #[.pointer (some ⟨C, 0, none⟩), .int .i64 n] w fun e w' => ∃ x : Int, e = .returned (.int .i64 x) ∧ 0 ≤ x ∧ x < n ∧ Only C w w' ∧ Drawn w' C A cap l := by
  have HD := hidP hD
  clear hD
  have hn : ¬ n ≤ 0 := by omega
  have hz : ¬ n = 0 := by omega
  go_enter Try.func49, Try.ntmps49
  go_wp2_with fail
  refine (byte_any C A cap l _ HD.out).mono ?_
  rintro e w1 ⟨x, rfl, hx0, hx1, k1, d1⟩
  have hm0 : 0 ≤ x % n := Int.emod_nonneg _ hz
  have hm1 : x % n < n := Int.emod_lt_of_pos _ (by omega)
  have hk := hidP k1
  have hd := hidP d1
  clear k1 d1
  go_wp2
  go_ret
  exact ⟨x % n, rfl, hm0, hm1, hk.out, hd.out⟩

theorem once_any (C : Nat) (A : Option Addr) (cap : Nat) (l : List By) (n : Int) (h1 : 1 ≤ n) (h2 : n ≤ 256) (w : World) (hD : Drawn w C A cap l) :
    Calls Try.prog 48 #[.pointer (some ⟨C, 0, none⟩), .int .i64 n] w fun e w' => ∃ x : Bool, e = .returned (.bool x) ∧ Only C w w' ∧ Drawn w' C A cap l := by
  have HD := hidP hD
  clear hD
  go_enter Try.func48, Try.ntmps48
  go_wp2_with fail
  refine (below_any C A cap l n h1 h2 _ HD.out).mono ?_
  rintro e w1 ⟨x, rfl, hx0, hx1, k1, d1⟩
  have hk := hidP k1
  have hd := hidP d1
  clear k1 d1
  go_wp2
  go_ret
  exact ⟨_, rfl, hk.out, hd.out⟩

structure Nu where
  n : Int
instance : Inhabited Nu := ⟨⟨0⟩⟩
instance : Cel Nu where
  k := 1
  cs x := [.int .i64 x.n]
  len _ := rfl
  one x u hu := by simp at hu; subst hu; rfl
theorem In.getNu {w : World} {b o : Nat} {l : List Nu} (h : In w b o l) (i : Nat) (hi : i < l.length) : w.cell? ⟨b, o + i, none⟩ = some (.int .i64 l[i].n) := by
  have := h.cell i hi (f := 0) rfl
  rwa [show (Cel.k Nu) = 1 from rfl, Nat.mul_one, Nat.add_zero] at this

/-- One of a list of numbers. -/
theorem pick_any (C : Nat) (A : Option Addr) (cap : Nat) (l : List By) (b o c : Nat) (ns : List Nu) (h1 : 1 ≤ ns.length) (h2 : ns.length ≤ 256) (w : World) (hD : Drawn w C A cap l) (hb : b < w.heap.size) (hbC : b ≠ C) (hin : In w b o ns) :
    Calls Try.prog 34 #[.pointer (some ⟨C, 0, none⟩), .slice (some ⟨b, o, none⟩) ns.length c] w fun e w' => ∃ x ∈ ns, e = .returned (.int .i64 x.n) ∧ Only C w w' ∧ Drawn w' C A cap l := by
  have HD := hidP hD
  have Hin := hidP hin
  clear hD hin
  go_enter Try.func34, Try.ntmps34
  go_wp2_with fail
  refine (below_any C A cap l ns.length (by omega) (by omega) _ HD.out).mono ?_
  rintro e w1 ⟨x, rfl, hx0, hx1, k1, d1⟩
  obtain ⟨j, rfl⟩ : ∃ j : Nat, x = (j : Int) := ⟨x.toNat, by omega⟩
  have hj : j < ns.length := by omega
  have cx := (Hin.out.only k1 hb hbC).getNu j hj
  have hk := hidP k1
  have hd := hidP d1
  clear k1 d1
  go_wp2
  go_ret
  exact ⟨ns[j], List.getElem_mem hj, rfl, hk.out, hd.out⟩

set_option maxRecDepth 100000 in
set_option maxHeartbeats 1000000 in
theorem new_any (A : Option Addr) (cap : Nat) (l : List By) (hl : l.length ≤ 1048576) (hby : ∀ x ∈ l, x.right) (w : World) (hA : At w A l) :
    Calls Try.prog 35 #[.slice A l.length cap] w fun e w' => ∃ C, e = .returned (.pointer (some ⟨C, 0, none⟩)) ∧ w.heap.size ≤ C ∧ Below w.heap.size w w' ∧ Drawn w' C A cap l := by
  have HA := hidP hA
  have Hby := hidP hby
  clear hA hby
  go_enter Try.func35, Try.ntmps35
  go_wp2
  go_loopw [3, 4] (fun h i w' => ∃ (x : Int) (n : Nat), h = .int .i64 x ∧ i = .int .i64 (n : Int) ∧ n ≤ l.length ∧ n ≤ 4000 ∧ w' = w) (fun _ i _ => 4000 - (intOf i).toNat)
  case atStart => exact ⟨_, 0, rfl, rfl, by omega, by omega, rfl⟩
  case round =>
    obtain ⟨x, n, rfl, rfl, hn, hn', rfl⟩ := hrel
    have fin : ∀ y : Int, Hid (Drawn (wr.alloc (.cells #[.slice A l.length cap, .int .i64 0, .int .i64 y] 83)) wr.heap.size A cap l) := fun y =>
      ⟨⟨0, y, Nat.zero_le _, Blk.new wr _ _⟩, HA.out.imp id fun ⟨b, o, e, hb, hi⟩ => ⟨b, o, e, hb, hi.below hb (alloc0 (Below.refl _ _) _)⟩, hl, Hby.out⟩
    have Fin := hidP fin
    clear fin
    by_cases hc : n < l.length ∧ n < 4000
    · obtain ⟨h1, h2⟩ := hc
      obtain ⟨b, o, rfl, hb, hin⟩ : ∃ b o, A = some ⟨b, o, none⟩ ∧ b < wr.heap.size ∧ In wr b o l := HA.out.resolve_left (fun h => by rw [h] at h1; simp at h1)
      have cx := hin.getBy n h1
      have hi0 : (0 : Int) ≤ (n : Int) := by omega
      have hi1 : (n : Int) < (l.length : Int) := by omega
      have hi2 : (n : Int) < 4000 := by omega
      go_wp2
      exact ⟨⟨_, n + 1, rfl, by go_num, by omega, by omega, by first | trivial | rfl⟩, by simp [intOf]; omega⟩
    · by_cases h1 : n < l.length
      · have h2 : ¬ n < 4000 := fun h => hc ⟨h1, h⟩
        have hi1 : (n : Int) < (l.length : Int) := by omega
        have hi2 : ¬ (n : Int) < 4000 := by omega
        go_wp2
        go_ret
        exact ⟨_, rfl, Nat.le_refl _, alloc0 (Below.refl _ _) _, (Fin.out _).out⟩
      · have hi1 : ¬ (n : Int) < (l.length : Int) := by omega
        go_wp2
        go_ret
        exact ⟨_, rfl, Nat.le_refl _, alloc0 (Below.refl _ _) _, (Fin.out _).out⟩
end Go.Proofs.Ytjmaifmcoepfdaa.Gen
