/-
  A command as bytes, as the specification and as the program lay it. Condition: the length that every text has.
-/
import Derived.Test.YtlniljigeemnoaaGreatNums
import Derived.Test.YtlniljigeemnoaaGreatPutB
set_option linter.unusedVariables false
set_option linter.unusedSimpArgs false
set_option maxRecDepth 100000
set_option maxHeartbeats 8000000
namespace Go.Proofs.YtlniljigeemnoaaGreat.Gen
open ChangeShapes WideShapes ChangeAt RowKit Joins Deep Base
def cmB (who seq op a b c : Int) (k t : ByteArray) : List UInt8 := Qbh [who + 1, seq, op, a, b, c] ++ txtB k ++ txtB t
def cmO (who seq op a b c : Int) (k t : ByteArray) : List UInt8 := if CmdOk.okB who seq op a b c k t = true then cmB who seq op a b c k t else []
structure CmR (who seq op a b c : Int) (k t : ByteArray) : Prop where
  w0 : -1 <= who /\ who <= 3
  s0 : 0 <= seq /\ seq <= 100000
  o0 : 0 <= op /\ op <= 10
  a0 : 0 <= a /\ a <= 100000
  b0 : 0 <= b /\ b <= 100000
  c0 : 0 <= c /\ c <= 100000
  k0 : k.size <= 30
  t0 : t.size <= 30
theorem Qhe {who seq op a b c : Int} {k t : ByteArray} (h : CmdOk.okB who seq op a b c k t = true) : CmR who seq op a b c k t := by
 unfold CmdOk.okB at h
 have hz : ∀ s : ByteArray, (s.toList == []) = true -> s.size <= 30 := fun s hs => by
  have e : s.toList = [] := by simpa using hs
  have h2 : s.toList.length = s.size := by rw [_root_.Go.ByteArray.toList_eq]; rfl
  rw [e] at h2; simp at h2; omega
 split at h
 . rename_i e
   subst e
   simp only [CmdOk.nobodyB, Bool.and_eq_true] at h
   obtain ⟨⟨⟨⟨⟨⟨h1, h2⟩, h3⟩, h4⟩, h5⟩, h6⟩, h7⟩ := h
   simp only [beq_iff_eq] at h1 h2 h3 h4 h5
   subst h1 h2 h3 h4 h5
   exact ⟨by omega, by omega, by omega, by omega, by omega, by omega, hz k h6, hz t h7⟩
 . simp only [CmdOk.restB, CmdOk.textB, CmdOk.inB, Bool.and_eq_true, decide_eq_true_eq] at h
   obtain ⟨⟨⟨⟨⟨⟨⟨h1, h2⟩, h3⟩, h4⟩, h5⟩, h6⟩, h7⟩, h8⟩ := h
   exact ⟨by omega, by omega, by omega, by omega, by omega, by omega, h7.2, h8.2⟩
theorem cmB_le {who seq op a b c : Int} {k t : ByteArray} (h : CmR who seq op a b c k t) : (cmB who seq op a b c k t).length <= 100 := by
 have h1 := Qb3 [who + 1, seq, op, a, b, c]
 have h2 := Qcv (n := k.size) (by have := h.k0; omega)
 have h3 := Qcv (n := t.size) (by have := h.t0; omega)
 have := h.k0
 have := h.t0
 unfold cmB
 rw [List.length_append, List.length_append, Qbv, Qbv]
 simp at h1
 omega
theorem new_at {α : Type} [Cel α] (W : World) (L : List α) (cs : Array Value) (tt : TypeId) (h : cs.toList = flat L) : At (W.alloc (.cells cs tt)) (some ⟨W.heap.size, 0, none⟩) L := by
 refine .inr ⟨_, _, rfl, by simp, ?_⟩
 intro j v hv
 rw [← h] at hv
 exact (Blk.new W tt cs).cell (i := 0 + j) (by simpa using hv)
theorem Qe6 (who seq op a b c : Int) (k t : ByteArray) (hk : k.size <= 9223372036854775807) (ht : t.size <= 9223372036854775807) (w : World) :
 Calls Tryz.prog 62 #[.agg (Qad who seq op a b c k t)] w fun e w' => ∃ a' c', e = .returned (.slice a' (cmO who seq op a b c k t).length c') /\ Below w.heap.size w w' /\ w'.ownsRow w.heap.size 5 1 (.slice a' (cmO who seq op a b c k t).length c') (cmO who seq op a b c k t).length (flat (cmO who seq op a b c k t)) := by
 have p := Blk.new w 105 (Qad who seq op a b c k t)
 have Hp := hidP p
 clear p
 go_enter Tryz.func62, Tryz.ntmps62
 go_wp2_with fail
 refine (CmdOk.spec_any who seq op a b c k t hk ht _).mono ?_
 rintro e w1 ⟨rfl, g1⟩
 have p1 := Hp.out.below g1 Hp.out.lt
 have B1 := via0 g1 (Qaf (Below.refl _ w) _)
 have q1 := p1.lt
 cases hok : CmdOk.okB who seq op a b c k t with
 | false =>
  have hO : Hid (cmO who seq op a b c k t = []) := by show _ = _; unfold cmO; rw [hok]; rfl
  clear g1 p1
  go_wp2
  go_ret
  rw [hO.out]
  exact ⟨_, _, rfl, Qaf B1 _, ⟨by simp [flat], .inr ⟨w1.heap.size, 0, #[], rfl, B1.size, Blk.new w1 5 #[], Nat.le_refl _, by simp [maxLen], rfl, rfl⟩⟩⟩
 | true =>
  have hO : Hid (cmO who seq op a b c k t = cmB who seq op a b c k t) := by show _ = _; unfold cmO; rw [hok]; rfl
  obtain ⟨w0, s0, o0, a0, b0, c0, k0, t0⟩ := Qhe hok
  have hat := hidP (new_at w1 [who + 1, seq, op, a, b, c] (Qgq (who + 1) seq op a b c) 3 rfl)
  have d0 := p1.cell (i := 0) rfl; have d1 := p1.cell (i := 1) rfl; have d2 := p1.cell (i := 2) rfl; have d3 := p1.cell (i := 3) rfl
  have d4 := p1.cell (i := 4) rfl; have d5 := p1.cell (i := 5) rfl
  have Hp1 := hidP (p1.alloc (.cells (Qgq (who + 1) seq op a b c) 3))
  have B2 := Qaf B1 (.cells (Qgq (who + 1) seq op a b c) 3)
  clear g1 p1 Hp B1
  go_wp2_with fail
  refine (Qbk (some ⟨w1.heap.size, 0, none⟩) 6 [who + 1, seq, op, a, b, c] (by simp) _ hat.out).mono ?_
  rintro e w2 ⟨a2, c2, rfl, g2, o2⟩
  have hl6 := Qb3 [who + 1, seq, op, a, b, c]
  simp only [List.length_cons, List.length_nil] at hl6
  have hX : Hid (Qbh [who + 1, seq, op, a, b, c] ++ txtB k ++ txtB t = cmB who seq op a b c k t) := hidP rfl
  generalize Qbh [who + 1, seq, op, a, b, c] = X at *
  have p2 := Hp1.out.below g2 Hp1.out.lt
  have B3 := via0 g2 B2
  have O2 := hidP (Qaw (C := w1.heap.size) o2 (by simp))
  have d6 := p2.cell (i := 6) rfl
  have q2 := p2.lt
  have Hp2 := hidP p2
  have s12 := hidP (Nat.le_trans (Nat.le_succ _) (show w1.heap.size + 1 <= w2.heap.size by have := g2.size; simpa using this))
  clear g2 o2 p2 hat d0 d1 d2 d3 d4 d5 Hp1 B2
  go_wp2_with fail
  refine (Qbf k (by omega) _).mono ?_
  rintro e w3 ⟨a3, c3, rfl, g3, o3⟩
  have hlK : Hid ((txtB k).length <= 35) := by show _ <= _; rw [Qbv]; have := Qcv (n := k.size) (by omega); omega
  have hlX : Hid (X.length <= 30) := hidP (by omega)
  clear hl6
  generalize txtB k = K at *
  have s13 : w1.heap.size <= w3.heap.size := Nat.le_trans s12.out g3.size
  obtain ⟨a4, c4, w4, hr4, hown4, hg4⟩ := Qdu (c' := c3) s13 (Qaq O2.out g3) (Qa6 o3).at (by have := hlK.out; have := hlX.out; omega)
  have B4 := (via0 g3 B3).grown hg4 (via0 g3 B3).size (fun j e => Nat.le_of_not_lt fun q => Qay (Qaq O2.out g3) (Nat.lt_trans q q1) e.symm)
  have p4 : Blk w4 w.heap.size 105 (Qad who seq op a b c k t) := (hg4.block _ (Nat.lt_of_lt_of_le Hp2.out.lt g3.size) (Qay (Qaq O2.out g3) q1)).trans (Hp2.out.below g3 Hp2.out.lt)
  have hXK : Hid ((X ++ K).length <= 200) := by show _ <= _; rw [List.length_append]; have := hlK.out; have := hlX.out; omega
  generalize X ++ K = XK at *
  have d7 := p4.cell (i := 7) rfl
  have q4 := p4.lt
  have s34 := hidP hg4.size
  have O4 := hidP hown4
  have Hs13 := hidP s13
  clear g3 o3 hg4 hown4 p4 O2 Hp2 B3 d6 s12 s13
  go_wp2_with (at_builtin; refine Qae rfl _ _ _ rfl _ _ _ rfl rfl hr4 ?_)
  refine (Qbf t (by omega) _).mono ?_
  rintro e w5 ⟨a5, c5, rfl, g5, o5⟩
  have hlT : Hid ((txtB t).length <= 35) := by show _ <= _; rw [Qbv]; have := Qcv (n := t.size) (by omega); omega
  generalize txtB t = T at *
  obtain ⟨a6, c6, w6, hr6, hown6, hg6⟩ := Qdu (c' := c5) (Nat.le_trans Hs13.out (Nat.le_trans s34.out g5.size)) (Qaq O4.out g5) (Qa6 o5).at (by have := hXK.out; have := hlT.out; omega)
  have B6 := hidP ((via0 g5 B4).grown hg6 (via0 g5 B4).size (fun j e => Nat.le_of_not_lt fun q => Qay (Qaq O4.out g5) (Nat.lt_trans q q1) e.symm))
  have O6 := hidP (Qaw (C := w.heap.size) hown6 (Nat.le_of_lt q1))
  generalize XK ++ T = Y at *
  clear g5 o5 hg6 hown6 O4 B4 d7 s34 Hs13
  go_wp2_with (at_builtin; refine Qae rfl _ _ _ rfl _ _ _ rfl rfl hr6 ?_)
  go_ret
  rw [hO.out, ← hX.out]
  exact ⟨a6, c6, rfl, B6.out, O6.out⟩
structure By where
  n : Int
instance : Inhabited By := ⟨⟨0⟩⟩
instance : Cel By where
  k := 1
  cs x := [.int .u8 x.n]
  len _ := rfl
  one x u hu := by simp at hu; subst hu; rfl
def By.right (x : By) : Prop := 0 <= x.n /\ x.n <= 255
theorem In.getBy {w : World} {b o : Nat} {l : List By} (h : In w b o l) (i : Nat) (hi : i < l.length) : w.cell? ⟨b, o + i, none⟩ = some (.int .u8 l[i].n) := by
 have := h.cell i hi (f := 0) rfl
 rwa [show (Cel.k By) = 1 from rfl, Nat.mul_one, Nat.add_zero] at this
structure Drawn (W : World) (C : Nat) (A : Option Addr) (cap : Nat) (l : List By) : Prop where
  cur : ∃ (i : Nat) (h : Int), i <= l.length /\ Blk W C 51 (Qe7 A l.length cap (i : Int) h)
  code : l = [] ∨ ∃ b o, A = some ⟨b, o, none⟩ /\ b < C /\ In W b o l
  len : l.length <= 1048576
  byte : ∀ x ∈ l, x.right
theorem Drawn.lt {W : World} {C cap : Nat} {A : Option Addr} {l : List By} (h : Drawn W C A cap l) : C < W.heap.size := by
 obtain ⟨i, x, _, hb⟩ := h.cur
 exact hb.lt
theorem Drawn.below {W W' : World} {C cap : Nat} {A : Option Addr} {l : List By} (h : Drawn W C A cap l) (g : Below W.heap.size W W') : Drawn W' C A cap l := by
 have hlt := h.lt
 refine ⟨?_, h.code.imp id fun ⟨b, o, e, hb, hi⟩ => ⟨b, o, e, hb, hi.below (by omega) g⟩, h.len, h.byte⟩
 obtain ⟨i, x, hi, hb⟩ := h.cur
 exact ⟨i, x, hi, hb.below g hb.lt⟩
theorem Drawn.only {W W' : World} {C cap c : Nat} {A : Option Addr} {l : List By} (h : Drawn W C A cap l) (k : Only c W W') (hc : C < c) : Drawn W' C A cap l := by
 have hlt := h.lt
 refine ⟨?_, h.code.imp id fun ⟨b, o, e, hb, hi⟩ => ⟨b, o, e, hb, hi.only k (by omega) (by omega)⟩, h.len, h.byte⟩
 obtain ⟨i, x, hi, hb⟩ := h.cur
 exact ⟨i, x, hi, hb.only k (by omega)⟩
theorem Only.trans {c : Nat} {a b d : World} (h : Only c a b) (k : Only c b d) : Only c a d :=
 ⟨k.os.trans h.os, k.tape.trans h.tape, k.output.trans h.output, Nat.le_trans h.size k.size, fun i hi hb => (k.block i (Nat.lt_of_lt_of_le hi h.size) hb).trans (h.block i hi hb)⟩
theorem Only.of_below {c : Nat} {a b : World} (h : Below a.heap.size a b) : Only c a b := (Only.refl c a).below h
theorem Only.drew {c : Nat} {a b : World} (h : Only c a b) : Only c a b.drew := ⟨h.os, h.tape, h.output, h.size, h.block⟩
theorem and255 (x : Int) : 0 <= bits .and .i64 x 255 /\ bits .and .i64 x 255 <= 255 := by
 have h : (BitVec.ofInt 64 x &&& BitVec.ofInt 64 255).toNat <= 255 := by rw [BitVec.toNat_and]; exact Nat.le_trans Nat.and_le_right (by decide)
 show 0 <= IntKind.i64.wrap (((BitVec.ofInt 64 x &&& BitVec.ofInt 64 255).toNat : Nat) : Int) /\ IntKind.i64.wrap (((BitVec.ofInt 64 x &&& BitVec.ofInt 64 255).toNat : Nat) : Int) <= 255
 generalize (BitVec.ofInt 64 x &&& BitVec.ofInt 64 255).toNat = m at *
 rw [IntKind.wrap_i64]
 omega
theorem Qeq (C : Nat) (A : Option Addr) (cap : Nat) (l : List By) (w : World) (hD : Drawn w C A cap l) :
 Calls Tryz.prog 41 #[.pointer (some ⟨C, 0, none⟩)] w fun e w' => ∃ x : Int, e = .returned (.int .i64 x) /\ 0 <= x /\ x <= 255 /\ Only C w w' /\ Drawn w' C A cap l := by
 obtain ⟨⟨i, h, hi, p⟩, hcode, hlen, hby⟩ := hD
 have Hcode := hidP hcode
 have Hby := hidP hby
 clear hcode hby
 obtain ⟨c0, c1, c2⟩ := p.row3
 have f1 := p.thaw 1
 have f2 := p.thaw 2
 go_enter Tryz.func41, Tryz.ntmps41
 go_wp2_with fail
 have P1 : Blk _ C 51 (Qe7 A l.length cap (i : Int) (wrap64 (wrap64 (h * 6364136223846793005) + 1442695040888963407))) := p.setAt 2 (.int .i64 (wrap64 (wrap64 (h * 6364136223846793005) + 1442695040888963407)))
 have O1 := hidP ((Only.refl C w).set 2 (.int .i64 (wrap64 (wrap64 (h * 6364136223846793005) + 1442695040888963407))))
 have C1 : Hid (l = [] ∨ ∃ b o, A = some ⟨b, o, none⟩ /\ b < C /\ In (w.setCell ⟨C, 2, none⟩ (.int .i64 (wrap64 (wrap64 (h * 6364136223846793005) + 1442695040888963407)))) b o l) := Hcode.out.imp id fun ⟨b, o, e, hb, hi⟩ => ⟨b, o, e, hb, hi.set ⟨C, 2, none⟩ _ (Nat.ne_of_gt hb)⟩
 generalize wrap64 (wrap64 (h * 6364136223846793005) + 1442695040888963407) = h' at *
 generalize w.setCell ⟨C, 2, none⟩ (.int .i64 h') = W1 at *
 clear c0 c1 c2 f1 f2 p Hcode
 obtain ⟨c0, c1, c2⟩ := P1.row3
 have f1 := P1.thaw 1
 have hq := P1.lt
 go_region_held3 (fun w' => w'.cell? ⟨C, 0, none⟩ = some (.slice A l.length cap) /\ w'.cell? ⟨C, 1, none⟩ = some (.int .i64 (i : Int)) /\ w'.cell? ⟨C, 2, none⟩ = some (.int .i64 h')) (first | exact ⟨c0, c1, c2⟩ | go_keep) (fail)
 obtain ⟨x, hx⟩ : ∃ x, x = bits BinOp.and IntKind.i64 (bits BinOp.xor IntKind.i64 (h' / 8589934592) (h' / 35184372088832)) 255 := ⟨_, rfl⟩
 have hx0 := and255 (bits BinOp.xor IntKind.i64 (h' / 8589934592) (h' / 35184372088832))
 rw [← hx] at hx0
 rw [← hx]
 clear hx
 go_wp2_with fail
 have hi0 : (0 : Int) <= (i : Int) := by omega
 by_cases hlt : i < l.length
 . have hi1 : (i : Int) < (l.length : Int) := by omega
   obtain ⟨b, o, rfl, hb, hin⟩ : ∃ b o, A = some ⟨b, o, none⟩ /\ b < C /\ In W1 b o l := C1.out.resolve_left (fun h => by rw [h] at hlt; simp at hlt)
   have cx := hin.getBy i hlt
   have hby := Hby.out l[i] (List.getElem_mem hlt)
   obtain ⟨hb0, hb1⟩ := hby
   generalize hy : l[i].n = y at *
   clear hy
   go_region_held3 (fun w' => w'.cell? ⟨C, 0, none⟩ = some (.slice (some ⟨b, o, none⟩) l.length cap) /\ w'.cell? ⟨C, 1, none⟩ = some (.int .i64 (i : Int)) /\ w'.cell? ⟨C, 2, none⟩ = some (.int .i64 h')) (first | exact ⟨c0, c1, c2⟩ | go_keep) (fail)
   go_wp2_with fail
   go_region_held3 (fun w' => w'.cell? ⟨C, 0, none⟩ = some (.slice (some ⟨b, o, none⟩) l.length cap) /\ w'.cell? ⟨C, 1, none⟩ = some (.int .i64 (i : Int)) /\ w'.cell? ⟨C, 2, none⟩ = some (.int .i64 h') /\ w'.cell? ⟨b, o + i, none⟩ = some (.int .u8 y)) (first | exact ⟨c0, c1, c2, cx⟩ | go_keep) (fail)
   have hx1 := and255 (IntKind.i64.wrap (x + IntKind.i64.wrap y))
   generalize bits BinOp.and IntKind.i64 (IntKind.i64.wrap (x + IntKind.i64.wrap y)) 255 = x1 at *
   have P2 := P1.drew.drew.drew
   have O2 : Hid (Only C w W1.drew.drew.drew) := O1.out.drew.drew.drew
   have C2 : Hid (l = [] ∨ ∃ b' o', some (⟨b, o, none⟩ : Addr) = some ⟨b', o', none⟩ /\ b' < C /\ In W1.drew.drew.drew b' o' l) := C1.out
   generalize W1.drew.drew.drew = W2 at *
   clear c0 c1 c2 f1 cx hin
   obtain ⟨c0, c1, c2⟩ := P2.row3
   have f1 := P2.thaw 1
   have hi2 : (i : Int) <= 1048576 := by omega
   go_wp2
   go_ret
   have P3 : Blk _ C 51 (Qe7 (some ⟨b, o, none⟩) l.length cap ((i + 1 : Nat) : Int) h') := P2.setAt 1 (.int .i64 ((i + 1 : Nat) : Int))
   exact ⟨x1, rfl, hx1.1, hx1.2, O2.out.set _ _, ⟨i + 1, h', by omega, P3⟩, C2.out.imp id fun ⟨b', o', e, hb', hi'⟩ => ⟨b', o', e, hb', hi'.set ⟨C, 1, none⟩ _ (Nat.ne_of_gt hb')⟩, hlen, Hby.out⟩
 . go_region_held3 (fun w' => w'.cell? ⟨C, 0, none⟩ = some (.slice A l.length cap) /\ w'.cell? ⟨C, 1, none⟩ = some (.int .i64 (i : Int)) /\ w'.cell? ⟨C, 2, none⟩ = some (.int .i64 h')) (first | exact ⟨c0, c1, c2⟩ | go_keep) (fail)
   go_wp2
   go_ret
   exact ⟨x, rfl, hx0.1, hx0.2, O1.out.drew.drew, ⟨i, h', hi, P1.drew.drew⟩, C1.out, hlen, Hby.out⟩
theorem Qa7 (C : Nat) (A : Option Addr) (cap : Nat) (l : List By) (n : Int) (h1 : 1 <= n) (h2 : n <= 256) (w : World) (hD : Drawn w C A cap l) :
 Calls Tryz.prog 31 #[.pointer (some ⟨C, 0, none⟩), .int .i64 n] w fun e w' => ∃ x : Int, e = .returned (.int .i64 x) /\ 0 <= x /\ x < n /\ Only C w w' /\ Drawn w' C A cap l := by
 have HD := hidP hD
 clear hD
 have hn : ¬ n <= 0 := by omega
 have hz : ¬ n = 0 := by omega
 go_enter Tryz.func31, Tryz.ntmps31
 go_wp2_with fail
 refine (Qeq C A cap l _ HD.out).mono ?_
 rintro e w1 ⟨x, rfl, hx0, hx1, k1, d1⟩
 have hm0 : 0 <= x % n := Int.emod_nonneg _ hz
 have hm1 : x % n < n := Int.emod_lt_of_pos _ (by omega)
 have hk := hidP k1
 have hd := hidP d1
 clear k1 d1
 go_wp2
 go_ret
 exact ⟨x % n, rfl, hm0, hm1, hk.out, hd.out⟩
theorem once_any (C : Nat) (A : Option Addr) (cap : Nat) (l : List By) (n : Int) (h1 : 1 <= n) (h2 : n <= 256) (w : World) (hD : Drawn w C A cap l) :
 Calls Tryz.prog 81 #[.pointer (some ⟨C, 0, none⟩), .int .i64 n] w fun e w' => ∃ x : Bool, e = .returned (.bool x) /\ Only C w w' /\ Drawn w' C A cap l := by
 have HD := hidP hD
 clear hD
 go_enter Tryz.func81, Tryz.ntmps81
 go_wp2_with fail
 refine (Qa7 C A cap l n h1 h2 _ HD.out).mono ?_
 rintro e w1 ⟨x, rfl, hx0, hx1, k1, d1⟩
 have hk := hidP k1
 have hd := hidP d1
 clear k1 d1
 go_wp2
 go_ret
 exact ⟨_, rfl, hk.out, hd.out⟩
structure Nu where
  n : Int
instance : Inhabited Nu := ⟨⟨0⟩⟩
instance : Cel Nu where
  k := 1
  cs x := [.int .i64 x.n]
  len _ := rfl
  one x u hu := by simp at hu; subst hu; rfl
theorem In.getNu {w : World} {b o : Nat} {l : List Nu} (h : In w b o l) (i : Nat) (hi : i < l.length) : w.cell? ⟨b, o + i, none⟩ = some (.int .i64 l[i].n) := by
 have := h.cell i hi (f := 0) rfl
 rwa [show (Cel.k Nu) = 1 from rfl, Nat.mul_one, Nat.add_zero] at this
theorem Qcy (C : Nat) (A : Option Addr) (cap : Nat) (l : List By) (b o c : Nat) (ns : List Nu) (h1 : 1 <= ns.length) (h2 : ns.length <= 256) (w : World) (hD : Drawn w C A cap l) (hb : b < w.heap.size) (hbC : b ≠ C) (hin : In w b o ns) :
 Calls Tryz.prog 19 #[.pointer (some ⟨C, 0, none⟩), .slice (some ⟨b, o, none⟩) ns.length c] w fun e w' => ∃ x ∈ ns, e = .returned (.int .i64 x.n) /\ Only C w w' /\ Drawn w' C A cap l := by
 have HD := hidP hD
 have Hin := hidP hin
 clear hD hin
 go_enter Tryz.func19, Tryz.ntmps19
 go_wp2_with fail
 refine (Qa7 C A cap l ns.length (by omega) (by omega) _ HD.out).mono ?_
 rintro e w1 ⟨x, rfl, hx0, hx1, k1, d1⟩
 obtain ⟨j, rfl⟩ : ∃ j : Nat, x = (j : Int) := ⟨x.toNat, by omega⟩
 have hj : j < ns.length := by omega
 have cx := (Hin.out.only k1 hb hbC).getNu j hj
 have hk := hidP k1
 have hd := hidP d1
 clear k1 d1
 go_wp2
 go_ret
 exact ⟨ns[j], List.getElem_mem hj, rfl, hk.out, hd.out⟩
theorem Qgm (A : Option Addr) (cap : Nat) (l : List By) (hl : l.length <= 1048576) (hby : ∀ x ∈ l, x.right) (w : World) (hA : At w A l) :
 Calls Tryz.prog 17 #[.slice A l.length cap] w fun e w' => ∃ C, e = .returned (.pointer (some ⟨C, 0, none⟩)) /\ w.heap.size <= C /\ Below w.heap.size w w' /\ Drawn w' C A cap l := by
 have HA := hidP hA
 have Hby := hidP hby
 clear hA hby
 go_enter Tryz.func17, Tryz.ntmps17
 go_wp2
 go_loopw [3, 4] (fun h i w' => ∃ (x : Int) (n : Nat), h = .int .i64 x /\ i = .int .i64 (n : Int) /\ n <= l.length /\ n <= 4000 /\ w' = w) (fun _ i _ => 4000 - (intOf i).toNat)
 case atStart => exact ⟨_, 0, rfl, rfl, by omega, by omega, rfl⟩
 case round =>
  obtain ⟨x, n, rfl, rfl, hn, hn', rfl⟩ := hrel
  have fin : ∀ y : Int, Hid (Drawn (wr.alloc (.cells (Qe7 A l.length cap 0 y) 51)) wr.heap.size A cap l) := fun y =>
   ⟨⟨0, y, Nat.zero_le _, Blk.new wr _ _⟩, HA.out.imp id fun ⟨b, o, e, hb, hi⟩ => ⟨b, o, e, hb, hi.below hb (Qaf (Below.refl _ _) _)⟩, hl, Hby.out⟩
  have Fin := hidP fin
  clear fin
  by_cases hc : n < l.length /\ n < 4000
  . obtain ⟨h1, h2⟩ := hc
    obtain ⟨b, o, rfl, hb, hin⟩ : ∃ b o, A = some ⟨b, o, none⟩ /\ b < wr.heap.size /\ In wr b o l := HA.out.resolve_left (fun h => by rw [h] at h1; simp at h1)
    have cx := hin.getBy n h1
    have hi0 : (0 : Int) <= (n : Int) := by omega
    have hi1 : (n : Int) < (l.length : Int) := by omega
    have hi2 : (n : Int) < 4000 := by omega
    go_wp2
    exact ⟨⟨_, n + 1, rfl, by go_num, by omega, by omega, by first | trivial | rfl⟩, by simp [intOf]; omega⟩
  . by_cases h1 : n < l.length
    . have h2 : ¬ n < 4000 := fun h => hc ⟨h1, h⟩
      have hi1 : (n : Int) < (l.length : Int) := by omega
      have hi2 : ¬ (n : Int) < 4000 := by omega
      go_wp2
      go_ret
      exact ⟨_, rfl, Nat.le_refl _, Qaf (Below.refl _ _) _, (Fin.out _).out⟩
    . have hi1 : ¬ (n : Int) < (l.length : Int) := by omega
      go_wp2
      go_ret
      exact ⟨_, rfl, Nat.le_refl _, Qaf (Below.refl _ _) _, (Fin.out _).out⟩
structure Three (n : Nat) (w : World) (x y z : Nat) (m b o : List Int) : Prop where
  nx : n <= x
  xy : x < y
  yz : y < z
  zs : z < w.heap.size
  im : In w x 0 m
  ib : In w y 0 b
  io : In w z 0 o
  tm : w.there x 0 (m.length * 1)
  tb : w.there y 0 (b.length * 1)
  to : w.there z 0 (o.length * 1)
def setB (ro wi le ke : Int) : Bool := inB ro 1 4 && inB wi 1 5 && inB le 1 8 && inB ke 0 60
theorem Qg8 {ro wi le ke : Int} (h : setB ro wi le ke = true) : 1 <= ro /\ ro <= 4 := by
 simp only [setB, inB, Bool.and_eq_true, decide_eq_true_eq] at h; exact h.1.1.1
theorem four_ways (p q r s : Bool) : p = false ∨ (p = true /\ q = false) ∨ (p = true /\ q = true /\ r = false) ∨ (p = true /\ q = true /\ r = true /\ s = false) ∨ (p = true /\ q = true /\ r = true /\ s = true) := by
 cases p<;>cases q<;>cases r<;>cases s<;>simp
theorem Qc8 (ro wi le ke : Int) (w : World) :
 Calls Tryz.prog 79 #[.agg (Qan ro wi le ke)] w fun e w' => e = .returned (.bool (setB ro wi le ke)) /\ Below w.heap.size w w' := by
 rcases four_ways (inB ro 1 4) (inB wi 1 5) (inB le 1 8) (inB ke 0 60) with h1 | ⟨h1, h2⟩ | ⟨h1, h2, h3⟩ | ⟨h1, h2, h3, h4⟩ | ⟨h1, h2, h3, h4⟩
 all_goals
  go_enter Tryz.func79, Tryz.ntmps79
  go_wp2_with (go_at_call 30; refine (Qbp _ _ _ _).mono ?_; rintro e w' ⟨rfl, rfl⟩)
  go_ret
  exact ⟨by simp [setB, *], by repeat (first | exact Below.refl _ _ | refine Below.drew ?_ | refine Below.alloc ?_ (by simp<;>omega) _)⟩
theorem Qgh {s : ByteArray} (h : s.size <= 30) : (txtB s).length <= 35 := by rw [Qbv]; have := Qcv (n := s.size) (by omega); omega
theorem Qc4 {α : Type} (f : α -> List UInt8) (k : Nat) (l : List α) (h : ∀ x ∈ l, (f x).length <= k) : (l.flatMap f).length <= k * l.length := by
 induction l with
 | nil => simp
 | cons x l ih =>
  rw [List.flatMap_cons, List.length_append, List.length_cons, Nat.mul_add]
  have := h x (by simp)
  have := ih (fun y hy => h y (by simp [hy]))
  omega
theorem flat_take {α : Type} (f : α -> List UInt8) {l : List α} {n : Nat} (h : n < l.length) : (l.take (n + 1)).flatMap f = (l.take n).flatMap f ++ f l[n] := by
 rw [List.take_succ_eq_append_getElem h, List.flatMap_append]
 simp
theorem Qhv {α : Type} (f : α -> List UInt8) (l : List α) (n : Nat) : ((l.take n).flatMap f).length <= (l.flatMap f).length := by
 conv => rhs; rw [← List.take_append_drop n l]
 rw [List.flatMap_append, List.length_append]
 omega
end Go.Proofs.YtlniljigeemnoaaGreat.Gen
