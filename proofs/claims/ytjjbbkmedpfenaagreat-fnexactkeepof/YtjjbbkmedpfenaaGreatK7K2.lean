/-
  The specification's reader of a keeper: what it tells is what the program's tells, or the cursor is not right any more. Condition: at most 1048576 bytes.
-/
import Derived.Test.YtjjbbkmedpfenaaGreatK7K1
import Derived.Deep.CutBlock
namespace Go.Proofs.YtjjbbkmedpfenaaGreat.Gen
open Go.ChangeShapes Go.WideShapes Go.ChangeAt Go.RowKit Go.Joins Go.Deep Base
set_option linter.unusedVariables false
set_option linter.unusedSimpArgs false

theorem nO_pos (l : List UInt8) (o : Option Int) : ∀ c, nO (nS l o) = some c → 0 ≤ c := by
  intro c h
  cases o with
  | none => cases h
  | some i =>
    cases hx : getN l i with
    | none => simp [nS, nO, hx] at h
    | some p =>
      obtain ⟨n, d⟩ := p
      simp [nS, nO, hx] at h
      omega
set_option maxRecDepth 100000 in
set_option maxHeartbeats 16000000 in
theorem l7Keep_any (R : Nat) (hR : R ≤ 1000) (r : Nat) (A : Option Addr) (cap : Nat) (l : List UInt8) (hl : l.length ≤ 1048576) (hcap : l.length ≤ cap) (hcm : cap ≤ 9223372036854775807) (c0 : Nat) (w : World) (h : CuO w r A cap l (some (c0 : Int))) :
    Calls Tryz.prog 14 #[.pointer (some ⟨r, 0, none⟩), .int .i64 (R : Int)] w fun e w' => ToldS (isKp w.heap.size) (getKp R l) r A cap l c0 w e w' := by
  have hr := h.far.1
  obtain ⟨o0, ho0⟩ : ∃ o0, some (c0 : Int) = o0 := ⟨_, rfl⟩
  have Ho0 := hidP ho0
  rw [ho0] at h
  clear ho0
  have px0 := Blk.new (w.alloc (.cells #[.slice none 0 0, .slice none 0 0, .slice none 0 0, .int .i64 0, .slice none 0 0, .slice none 0 0] 31)) 31 #[.slice none 0 0, .slice none 0 0, .slice none 0 0, .int .i64 0, .slice none 0 0, .slice none 0 0]
  have pr0 := (Blk.new w 31 #[.slice none 0 0, .slice none 0 0, .slice none 0 0, .int .i64 0, .slice none 0 0, .slice none 0 0]).alloc (.cells #[.slice none 0 0, .slice none 0 0, .slice none 0 0, .int .i64 0, .slice none 0 0, .slice none 0 0] 31)
  simp only [World.size_alloc] at px0
  have K0 : Hid (KU (α := RC) rowP 67 (fun _ => True) (w.heap.size + 2) w ((w.alloc (.cells #[.slice none 0 0, .slice none 0 0, .slice none 0 0, .int .i64 0, .slice none 0 0, .slice none 0 0] 31)).alloc (.cells #[.slice none 0 0, .slice none 0 0, .slice none 0 0, .int .i64 0, .slice none 0 0, .slice none 0 0] 31)) r A cap l o0 #[.slice none 0 0, .slice none 0 0, .slice none 0 0, .int .i64 0, .slice none 0 0, .slice none 0 0] none 0 []) := ⟨(CB.start h).below (alloc0 (alloc0 (Below.refl _ w) (.cells #[.slice none 0 0, .slice none 0 0, .slice none 0 0, .int .i64 0, .slice none 0 0, .slice none 0 0] 31)) (.cells #[.slice none 0 0, .slice none 0 0, .slice none 0 0, .int .i64 0, .slice none 0 0, .slice none 0 0] 31)), px0, pr0, GU.start (Nat.le_refl _) (by simp), trivial, fun _ _ _ _ _ _ => trivial⟩
  clear px0 pr0 h
  go_enter Tryz.func14, Tryz.ntmps14
  -- list 1
  go_wp2_with fail
  refine (l7Num_any r A cap l hl o0 _ K0.out.cb.cu).mono ?_
  rintro e w1 ⟨rfl, k1, h1⟩
  have hn1 := nV_le l o0
  have KA : Hid (KU (α := RC) rowP 67 (fun _ => True) (w.heap.size + 2) w w1 r A cap l (nO (nS l o0)) #[.slice none (List.length ([] : List RC)) 0, .slice none 0 0, .slice none 0 0, .int .i64 0, .slice none 0 0, .slice none 0 0] none 0 ([] : List RC)) := hidP (K0.out.call rowP_firm k1 h1)
  have HL0 : Hid (LkG (getRw l) l.length (gl l (getRw l) o0) (nV (nS l o0)) 0 (List.map RC.p []) (nO (nS l o0))) := hidP (LkG.start l (getRw l) o0)
  obtain ⟨g1, hg1⟩ : ∃ g1, gl l (getRw l) o0 = g1 := ⟨_, rfl⟩
  rw [hg1] at HL0
  have HG1 := hidP hg1
  clear k1 h1 K0 hg1
  generalize nV (nS l o0) = n1 at *
  generalize nO (nS l o0) = oL at *
  go_upto_block 0 with fail
  go_cut [7, 8] from 19 to 37 (fun _ _ W => ∃ (a : Option Addr) (cp : Nat) (xs : List RC) (o : Option Int), Hid (KU (α := RC) rowP 67 (fun _ => True) (w.heap.size + 2) w W r A cap l o #[.slice a (List.length xs) cp, .slice none 0 0, .slice none 0 0, .int .i64 0, .slice none 0 0, .slice none 0 0] a cp xs) ∧ Hid (g1 = o.map fun c => (xs.map RC.p, c.toNat)) ∧ Hid (∀ c, o = some c → 0 ≤ c))
  case first =>
    go_wp2_with fail
    go_loopw [7] (fun v W => ∃ (k cp : Nat) (a : Option Addr) (xs : List RC) (o : Option Int), v = .int .i64 (k : Int) ∧ k ≤ n1 ∧ Hid (xs.length = k) ∧ Hid (KU (α := RC) rowP 67 (fun _ => True) (w.heap.size + 2) w W r A cap l o #[.slice a (List.length xs) cp, .slice none 0 0, .slice none 0 0, .int .i64 0, .slice none 0 0, .slice none 0 0] a cp xs) ∧ Hid (LkG (getRw l) l.length g1 n1 k (xs.map RC.p) o)) (fun v _ => n1 - (intOf v).toNat)
    case atStart => exact ⟨0, 0, none, [], oL, rfl, by omega, rfl, KA, HL0⟩
    case round =>
      clear KA HL0
      obtain ⟨k, cp, a, xs, o, rfl, hk, hxk, K, HLk⟩ := hrel
      have hklen := HLk.out.le
      obtain ⟨cok, crl⟩ := K.out.cb.ok
      by_cases hent : k < n1 ∧ o.isSome = true
      · obtain ⟨hkn, hos⟩ := hent
        have hkn' : (k : Int) < (n1 : Int) := by omega
        have hxl : Hid (xs.length ≤ 2000000) := by show _ ≤ _; have := hxk.out; omega
        obtain ⟨c, rfl⟩ := HLk.out.place hos
        have cok' : wr.cell? ⟨r, 2, none⟩ = some (.bool true) := cok
        clear cok hklen
        go_wp2_with fail
        refine (l7Row_any r A cap l hl hcap hcm c _ K.out.cb.cu).mono ?_
        rintro e v1 ⟨⟨y0, y1, y2⟩, aa, cc, rfl, k1, own1, o', h1, hrel1⟩
        have HLk' : Hid (LkG (getRw l) l.length g1 n1 (k + 1) ((xs ++ [(⟨y0, y1, aa, cc, y2⟩ : RC)]).map RC.p) o') := by
          show LkG _ _ _ _ _ _ _
          rw [List.map_append]
          exact HLk.out.next (fun i x d h => getRw_le h) hrel1 hkn
        obtain ⟨a2, c2, X, hr1, bx, F⟩ := K.out.round rowP_firm (pg := Tryz.prog) (z := .agg #[.int .i64 0, .int .i64 0, .slice none 0 0]) Tryz.underlying25 infoRC rfl (by decide) (by decide) k1 h1 (⟨y0, y1, aa, cc, y2⟩ : RC) (owns_sub own1) #[.int .i64 y0, .int .i64 y1, .slice aa (List.length y2) cc] rfl hxl.out 0
        have bK := (K.out.call rowP_firm k1 h1).box
        have b1' : v1.cell? ⟨w.heap.size + 1, 0, none⟩ = some (.slice a (List.length xs) cp) := bK.cell (i := 0) rfl
        have q1' := bK.lt
        have bX : X.cell? ⟨w.heap.size + 1, 0, none⟩ = some (.slice a (List.length xs) cp) := bx.cell (i := 0) rfl
        have fX := bx.thaw 0
        have qX := bx.lt
        have hxk2 : Hid ((xs ++ [(⟨y0, y1, aa, cc, y2⟩ : RC)]).length = k + 1) := by show _ = _; have := hxk.out; simp; omega
        have F' : Hid (KU (α := RC) rowP 67 (fun _ => True) (w.heap.size + 2) w (X.setCell ⟨w.heap.size + 1, 0, none⟩ (.slice a2 (xs.length + 1) c2)) r A cap l o' #[.slice a2 (List.length (xs ++ [(⟨y0, y1, aa, cc, y2⟩ : RC)])) c2, .slice none 0 0, .slice none 0 0, .int .i64 0, .slice none 0 0, .slice none 0 0] a2 c2 (xs ++ [(⟨y0, y1, aa, cc, y2⟩ : RC)])) := by
          show KU _ _ _ _ _ _ _ _ _ _ _ _ _ _ _
          rw [List.length_append]
          exact F
        clear K F bK bx own1 k1 h1 hrel1 HLk hxl hxk cok' crl
        go_wp2_with (at_builtin; refine wpList_append_is rfl _ _ _ rfl _ _ _ rfl rfl hr1 ?_)
        exact ⟨⟨k + 1, c2, a2, xs ++ [(⟨y0, y1, aa, cc, y2⟩ : RC)], o', by go_num, by omega, hxk2, F', HLk'⟩, by simp [intOf]; omega⟩
      · have hG := hidP (HLk.out.done hk hent)
        have hP := hidP HLk.out.pos
        have hor : (¬ (k : Int) < (n1 : Int)) ∨ ((k : Int) < (n1 : Int) ∧ o.isSome = false) := by
          by_cases hkn : k < n1
          · right
            refine ⟨by omega, ?_⟩
            cases hos : o.isSome with
            | false => rfl
            | true => exact absurd ⟨hkn, hos⟩ hent
          · left; omega
        clear hent HLk hklen hxk
        rcases hor with hkn | ⟨hkn, hos⟩
        · clear cok
          go_wp2
          go_meet
          exact ⟨a, cp, xs, o, K, hG, hP⟩
        · rw [hos] at cok
          go_wp2
          go_meet
          exact ⟨a, cp, xs, o, K, hG, hP⟩
  case rest =>
  obtain ⟨rA, rc, rs, o1, K, hG1, hP1⟩ := hcut
  clear KA HL0
  have hs1 := hidP K.out.gu.hB
  have K1' := hidP (K.out.next (β := MC) (Q := makP) (u := 71) rowP_firm)
  have qc := hidP K.out.gu.hB
  obtain ⟨s1, es1⟩ : ∃ s1, wc.heap.size = s1 := ⟨_, rfl⟩
  rw [es1] at K1' hs1
  have K1 := K1'
  have Es1 := hidP es1
  clear K K1' es1 qc
  -- list 2
  go_wp2_with fail
  refine (l7Num_any r A cap l hl o1 _ K1.out.cb.cu).mono ?_
  rintro e w1 ⟨rfl, k1, h1⟩
  have hn2 := nV_le l o1
  have KA : Hid (KU (α := MC) makP 71 (fun V => True ∧ Own rowP V rA rs (fun b => w.heap.size + 2 ≤ b ∧ b < s1)) s1 w w1 r A cap l (nO (nS l o1)) #[.slice rA (List.length rs) rc, .slice none (List.length ([] : List MC)) 0, .slice none 0 0, .int .i64 0, .slice none 0 0, .slice none 0 0] none 0 ([] : List MC)) := hidP (K1.out.call makP_firm k1 h1)
  have HL0 : Hid (LkG (getMr l) l.length (gl l (getMr l) o1) (nV (nS l o1)) 0 (List.map MC.p []) (nO (nS l o1))) := hidP (LkG.start l (getMr l) o1)
  obtain ⟨g2, hg2⟩ : ∃ g2, gl l (getMr l) o1 = g2 := ⟨_, rfl⟩
  rw [hg2] at HL0
  have HG2 := hidP hg2
  clear k1 h1 K1 hg2
  generalize nV (nS l o1) = n2 at *
  generalize nO (nS l o1) = oL at *
  go_upto_block 2 with fail
  go_cut [9, 10] from 40 to 58 (fun _ _ W => ∃ (a : Option Addr) (cp : Nat) (xs : List MC) (o : Option Int), Hid (KU (α := MC) makP 71 (fun V => True ∧ Own rowP V rA rs (fun b => w.heap.size + 2 ≤ b ∧ b < s1)) s1 w W r A cap l o #[.slice rA (List.length rs) rc, .slice a (List.length xs) cp, .slice none 0 0, .int .i64 0, .slice none 0 0, .slice none 0 0] a cp xs) ∧ Hid (g2 = o.map fun c => (xs.map MC.p, c.toNat)) ∧ Hid (∀ c, o = some c → 0 ≤ c))
  case first =>
    go_wp2_with fail
    go_loopw [9] (fun v W => ∃ (k cp : Nat) (a : Option Addr) (xs : List MC) (o : Option Int), v = .int .i64 (k : Int) ∧ k ≤ n2 ∧ Hid (xs.length = k) ∧ Hid (KU (α := MC) makP 71 (fun V => True ∧ Own rowP V rA rs (fun b => w.heap.size + 2 ≤ b ∧ b < s1)) s1 w W r A cap l o #[.slice rA (List.length rs) rc, .slice a (List.length xs) cp, .slice none 0 0, .int .i64 0, .slice none 0 0, .slice none 0 0] a cp xs) ∧ Hid (LkG (getMr l) l.length g2 n2 k (xs.map MC.p) o)) (fun v _ => n2 - (intOf v).toNat)
    case atStart => exact ⟨0, 0, none, [], oL, rfl, by omega, rfl, KA, HL0⟩
    case round =>
      clear KA HL0
      obtain ⟨k, cp, a, xs, o, rfl, hk, hxk, K, HLk⟩ := hrel
      have hklen := HLk.out.le
      obtain ⟨cok, crl⟩ := K.out.cb.ok
      by_cases hent : k < n2 ∧ o.isSome = true
      · obtain ⟨hkn, hos⟩ := hent
        have hkn' : (k : Int) < (n2 : Int) := by omega
        have hxl : Hid (xs.length ≤ 2000000) := by show _ ≤ _; have := hxk.out; omega
        obtain ⟨c, rfl⟩ := HLk.out.place hos
        have cok' : wr.cell? ⟨r, 2, none⟩ = some (.bool true) := cok
        clear cok hklen
        go_wp2_with fail
        refine (l7Maker_any r A cap l hl hcap hcm c _ K.out.cb.cu).mono ?_
        rintro e v1 ⟨⟨y0, y1, y2, y3, y4⟩, aa, cc, rfl, k1, own1, o', h1, hrel1⟩
        have HLk' : Hid (LkG (getMr l) l.length g2 n2 (k + 1) ((xs ++ [(⟨y0, y1, y2, y3, aa, cc, y4⟩ : MC)]).map MC.p) o') := by
          show LkG _ _ _ _ _ _ _
          rw [List.map_append]
          exact HLk.out.next (fun i x d h => getMr_le h) hrel1 hkn
        obtain ⟨a2, c2, X, hr1, bx, F⟩ := K.out.round makP_firm (pg := Tryz.prog) (z := .agg #[.int .i64 0, .int .i64 0, .int .i64 0, .int .i64 0, .slice none 0 0]) Tryz.underlying26 infoMC rfl (by decide) (by decide) k1 h1 (⟨y0, y1, y2, y3, aa, cc, y4⟩ : MC) (owns_sub own1) #[.int .i64 y0, .int .i64 y1, .int .i64 y2, .int .i64 y3, .slice aa (List.length y4) cc] rfl hxl.out 1
        have bK := (K.out.call makP_firm k1 h1).box
        have b1' : v1.cell? ⟨w.heap.size + 1, 1, none⟩ = some (.slice a (List.length xs) cp) := bK.cell (i := 1) rfl
        have q1' := bK.lt
        have bX : X.cell? ⟨w.heap.size + 1, 1, none⟩ = some (.slice a (List.length xs) cp) := bx.cell (i := 1) rfl
        have fX := bx.thaw 1
        have qX := bx.lt
        have hxk2 : Hid ((xs ++ [(⟨y0, y1, y2, y3, aa, cc, y4⟩ : MC)]).length = k + 1) := by show _ = _; have := hxk.out; simp; omega
        have F' : Hid (KU (α := MC) makP 71 (fun V => True ∧ Own rowP V rA rs (fun b => w.heap.size + 2 ≤ b ∧ b < s1)) s1 w (X.setCell ⟨w.heap.size + 1, 1, none⟩ (.slice a2 (xs.length + 1) c2)) r A cap l o' #[.slice rA (List.length rs) rc, .slice a2 (List.length (xs ++ [(⟨y0, y1, y2, y3, aa, cc, y4⟩ : MC)])) c2, .slice none 0 0, .int .i64 0, .slice none 0 0, .slice none 0 0] a2 c2 (xs ++ [(⟨y0, y1, y2, y3, aa, cc, y4⟩ : MC)])) := by
          show KU _ _ _ _ _ _ _ _ _ _ _ _ _ _ _
          rw [List.length_append]
          exact F
        clear K F bK bx own1 k1 h1 hrel1 HLk hxl hxk cok' crl
        go_wp2_with (at_builtin; refine wpList_append_is rfl _ _ _ rfl _ _ _ rfl rfl hr1 ?_)
        exact ⟨⟨k + 1, c2, a2, xs ++ [(⟨y0, y1, y2, y3, aa, cc, y4⟩ : MC)], o', by go_num, by omega, hxk2, F', HLk'⟩, by simp [intOf]; omega⟩
      · have hG := hidP (HLk.out.done hk hent)
        have hP := hidP HLk.out.pos
        have hor : (¬ (k : Int) < (n2 : Int)) ∨ ((k : Int) < (n2 : Int) ∧ o.isSome = false) := by
          by_cases hkn : k < n2
          · right
            refine ⟨by omega, ?_⟩
            cases hos : o.isSome with
            | false => rfl
            | true => exact absurd ⟨hkn, hos⟩ hent
          · left; omega
        clear hent HLk hklen hxk
        rcases hor with hkn | ⟨hkn, hos⟩
        · clear cok
          go_wp2
          go_meet
          exact ⟨a, cp, xs, o, K, hG, hP⟩
        · rw [hos] at cok
          go_wp2
          go_meet
          exact ⟨a, cp, xs, o, K, hG, hP⟩
  case rest =>
  obtain ⟨mA, mc, ms, o2, K, hG2, hP2⟩ := hcut
  clear KA HL0
  have hs2 := hidP K.out.gu.hB
  have K2' := hidP (K.out.next (β := GC) (Q := grpP) (u := 74) makP_firm)
  have qc := hidP K.out.gu.hB
  obtain ⟨s2, es2⟩ : ∃ s2, wc.heap.size = s2 := ⟨_, rfl⟩
  rw [es2] at K2' hs2
  have K2 := K2'
  have Es2 := hidP es2
  clear K K2' es2 qc
  -- list 3
  go_wp2_with fail
  refine (l7Num_any r A cap l hl o2 _ K2.out.cb.cu).mono ?_
  rintro e w1 ⟨rfl, k1, h1⟩
  have hn3 := nV_le l o2
  have KA : Hid (KU (α := GC) grpP 74 (fun V => (True ∧ Own rowP V rA rs (fun b => w.heap.size + 2 ≤ b ∧ b < s1)) ∧ Own makP V mA ms (fun b => s1 ≤ b ∧ b < s2)) s2 w w1 r A cap l (nO (nS l o2)) #[.slice rA (List.length rs) rc, .slice mA (List.length ms) mc, .slice none (List.length ([] : List GC)) 0, .int .i64 0, .slice none 0 0, .slice none 0 0] none 0 ([] : List GC)) := hidP (K2.out.call grpP_firm k1 h1)
  have HL0 : Hid (LkG (getGr R l) l.length (gl l (getGr R l) o2) (nV (nS l o2)) 0 (List.map GC.p []) (nO (nS l o2))) := hidP (LkG.start l (getGr R l) o2)
  obtain ⟨g3, hg3⟩ : ∃ g3, gl l (getGr R l) o2 = g3 := ⟨_, rfl⟩
  rw [hg3] at HL0
  have HG3 := hidP hg3
  clear k1 h1 K2 hg3
  generalize nV (nS l o2) = n3 at *
  generalize nO (nS l o2) = oL at *
  go_upto_block 4 with fail
  go_cut [11, 12] from 61 to 80 (fun _ _ W => ∃ (a : Option Addr) (cp : Nat) (xs : List GC) (o : Option Int), Hid (KU (α := GC) grpP 74 (fun V => (True ∧ Own rowP V rA rs (fun b => w.heap.size + 2 ≤ b ∧ b < s1)) ∧ Own makP V mA ms (fun b => s1 ≤ b ∧ b < s2)) s2 w W r A cap l o #[.slice rA (List.length rs) rc, .slice mA (List.length ms) mc, .slice a (List.length xs) cp, .int .i64 0, .slice none 0 0, .slice none 0 0] a cp xs) ∧ Hid (g3 = o.map fun c => (xs.map GC.p, c.toNat)) ∧ Hid (∀ c, o = some c → 0 ≤ c))
  case first =>
    go_wp2_with fail
    go_loopw [11] (fun v W => ∃ (k cp : Nat) (a : Option Addr) (xs : List GC) (o : Option Int), v = .int .i64 (k : Int) ∧ k ≤ n3 ∧ Hid (xs.length = k) ∧ Hid (KU (α := GC) grpP 74 (fun V => (True ∧ Own rowP V rA rs (fun b => w.heap.size + 2 ≤ b ∧ b < s1)) ∧ Own makP V mA ms (fun b => s1 ≤ b ∧ b < s2)) s2 w W r A cap l o #[.slice rA (List.length rs) rc, .slice mA (List.length ms) mc, .slice a (List.length xs) cp, .int .i64 0, .slice none 0 0, .slice none 0 0] a cp xs) ∧ Hid (LkG (getGr R l) l.length g3 n3 k (xs.map GC.p) o)) (fun v _ => n3 - (intOf v).toNat)
    case atStart => exact ⟨0, 0, none, [], oL, rfl, by omega, rfl, KA, HL0⟩
    case round =>
      clear KA HL0
      obtain ⟨k, cp, a, xs, o, rfl, hk, hxk, K, HLk⟩ := hrel
      have hklen := HLk.out.le
      obtain ⟨cok, crl⟩ := K.out.cb.ok
      by_cases hent : k < n3 ∧ o.isSome = true
      · obtain ⟨hkn, hos⟩ := hent
        have hkn' : (k : Int) < (n3 : Int) := by omega
        have hxl : Hid (xs.length ≤ 2000000) := by show _ ≤ _; have := hxk.out; omega
        obtain ⟨c, rfl⟩ := HLk.out.place hos
        have cok' : wr.cell? ⟨r, 2, none⟩ = some (.bool true) := cok
        clear cok hklen
        go_wp2_with fail
        refine (l7Group_any R hR r A cap l hl c _ K.out.cb.cu).mono ?_
        rintro e v1 ⟨⟨y0, y1, y2, y3⟩, v, o', rfl, ⟨b1, f1, b2, f2, b3, f3, rfl, own1⟩, k1, h1, hrel1⟩
        have HLk' : Hid (LkG (getGr R l) l.length g3 n3 (k + 1) ((xs ++ [(⟨y0, b1, f1, y1, b2, f2, y2, b3, f3, y3⟩ : GC)]).map GC.p) o') := by
          show LkG _ _ _ _ _ _ _
          rw [List.map_append]
          exact HLk.out.next (fun i x d h => getGr_le h) hrel1 hkn
        obtain ⟨a2, c2, X, hr1, bx, F⟩ := K.out.round grpP_firm (pg := Tryz.prog) (z := .agg #[.int .i64 0, .slice none 0 0, .slice none 0 0, .slice none 0 0]) Tryz.underlying27 infoGC rfl (by decide) (by decide) k1 h1 (⟨y0, b1, f1, y1, b2, f2, y2, b3, f3, y3⟩ : GC) (own1) #[.int .i64 y0, .slice b1 (List.length y1) f1, .slice b2 (List.length y2) f2, .slice b3 (List.length y3) f3] rfl hxl.out 2
        have bK := (K.out.call grpP_firm k1 h1).box
        have b1' : v1.cell? ⟨w.heap.size + 1, 2, none⟩ = some (.slice a (List.length xs) cp) := bK.cell (i := 2) rfl
        have q1' := bK.lt
        have bX : X.cell? ⟨w.heap.size + 1, 2, none⟩ = some (.slice a (List.length xs) cp) := bx.cell (i := 2) rfl
        have fX := bx.thaw 2
        have qX := bx.lt
        have hxk2 : Hid ((xs ++ [(⟨y0, b1, f1, y1, b2, f2, y2, b3, f3, y3⟩ : GC)]).length = k + 1) := by show _ = _; have := hxk.out; simp; omega
        have F' : Hid (KU (α := GC) grpP 74 (fun V => (True ∧ Own rowP V rA rs (fun b => w.heap.size + 2 ≤ b ∧ b < s1)) ∧ Own makP V mA ms (fun b => s1 ≤ b ∧ b < s2)) s2 w (X.setCell ⟨w.heap.size + 1, 2, none⟩ (.slice a2 (xs.length + 1) c2)) r A cap l o' #[.slice rA (List.length rs) rc, .slice mA (List.length ms) mc, .slice a2 (List.length (xs ++ [(⟨y0, b1, f1, y1, b2, f2, y2, b3, f3, y3⟩ : GC)])) c2, .int .i64 0, .slice none 0 0, .slice none 0 0] a2 c2 (xs ++ [(⟨y0, b1, f1, y1, b2, f2, y2, b3, f3, y3⟩ : GC)])) := by
          show KU _ _ _ _ _ _ _ _ _ _ _ _ _ _ _
          rw [List.length_append]
          exact F
        clear K F bK bx own1 k1 h1 hrel1 HLk hxl hxk cok' crl
        go_wp2_with (at_builtin; refine wpList_append_is rfl _ _ _ rfl _ _ _ rfl rfl hr1 ?_)
        exact ⟨⟨k + 1, c2, a2, xs ++ [(⟨y0, b1, f1, y1, b2, f2, y2, b3, f3, y3⟩ : GC)], o', by go_num, by omega, hxk2, F', HLk'⟩, by simp [intOf]; omega⟩
      · have hG := hidP (HLk.out.done hk hent)
        have hP := hidP HLk.out.pos
        have hor : (¬ (k : Int) < (n3 : Int)) ∨ ((k : Int) < (n3 : Int) ∧ o.isSome = false) := by
          by_cases hkn : k < n3
          · right
            refine ⟨by omega, ?_⟩
            cases hos : o.isSome with
            | false => rfl
            | true => exact absurd ⟨hkn, hos⟩ hent
          · left; omega
        clear hent HLk hklen hxk
        rcases hor with hkn | ⟨hkn, hos⟩
        · clear cok
          go_wp2
          go_meet
          exact ⟨a, cp, xs, o, K, hG, hP⟩
        · rw [hos] at cok
          go_wp2
          go_meet
          exact ⟨a, cp, xs, o, K, hG, hP⟩
  case rest =>
  obtain ⟨gA, gc, gs, o3, K, hG3, hP3⟩ := hcut
  clear KA HL0
  have hs3 := hidP K.out.gu.hB
  have K3' := hidP (K.out.next (β := Int) (Q := fun _ _ _ => True) (u := 3) grpP_firm)
  obtain ⟨s3, es3⟩ : ∃ s3, wc.heap.size = s3 := ⟨_, rfl⟩
  rw [es3] at K3' hs3
  have K3 := K3'
  clear K K3' es3
  -- the time
  go_wp2_with fail
  refine (l7Num_any r A cap l hl o3 _ K3.out.cb.cu).mono ?_
  rintro e w1 ⟨rfl, k1, h1⟩
  have hnt := nV_le l o3
  obtain ⟨tm, htm⟩ : ∃ tm : Int, Hid (tm = (nV (nS l o3) : Int)) := ⟨_, rfl⟩
  have htb : 0 ≤ tm ∧ tm ≤ 2147483647 := by have := htm.out; omega
  rw [← htm.out]
  have K4 := K3.out.call (fun _ _ _ _ _ _ _ _ => trivial) k1 h1
  have t1 : w1.cell? ⟨w.heap.size + 1, 3, none⟩ = some (.int .i64 0) := K4.box.cell (i := 3) rfl
  have f1 := K4.box.thaw 3
  have q1' := K4.box.lt
  have kc := Offp.of_only ((Only.refl (w.heap.size + 1) w1).set 3 (.int .i64 tm))
  have G0 : Hid (KV (fun V => ((True ∧ Own rowP V rA rs (fun b => w.heap.size + 2 ≤ b ∧ b < s1)) ∧ Own makP V mA ms (fun b => s1 ≤ b ∧ b < s2)) ∧ Own grpP V gA gs (fun b => s2 ≤ b ∧ b < s3)) s3 w (w1.setCell ⟨w.heap.size + 1, 3, none⟩ (.int .i64 tm)) r A cap l (nO (nS l o3)) (Value.slice rA (List.length rs) rc) (Value.slice mA (List.length ms) mc) (Value.slice gA (List.length gs) gc) (Value.int .i64 tm) none 0 [] none 0 []) := ⟨K4.cb.offp kc (fun y e => by subst e; omega), K4.box.setAt 3 (.int .i64 tm), K4.res.other (by omega) _ _, World.ownsRow_nil _ _ _ _, World.ownsRow_nil _ _ _ _, fun x e => by simp [Value.ownBlock] at e, K4.stay _ _ _ K4.pk kc (fun y e => by subst e; exact .inl (by omega)), K4.stay, K4.gu.hb, Nat.le_trans K4.gu.hB kc.size⟩
  have HLn : Hid (LkN (getDl l) ((nO (nS l o3)).bind fun c => getMany (getDl l) 4 c.toNat) 4 0 [] (nO (nS l o3))) := hidP (LkN.start (getDl l) 4 (nO (nS l o3)) (nO_pos l o3))
  obtain ⟨g5, hg5⟩ : ∃ g5, ((nO (nS l o3)).bind fun c => getMany (getDl l) 4 c.toNat) = g5 := ⟨_, rfl⟩
  rw [hg5] at HLn
  have HG5 := hidP hg5
  clear K4 K3 k1 h1 kc hg5 hnt
  generalize nO (nS l o3) = oL at G0 HLn
  go_wp2
  go_loopw [13] (fun v W => ∃ (k d1 d2 : Nat) (a1 a2 : Option Addr) (ps : List (Int × An)) (o : Option Int), v = .int .i64 (k : Int) ∧ k ≤ 4 ∧ Hid (ps.length = k) ∧ Hid (KV (fun V => ((True ∧ Own rowP V rA rs (fun b => w.heap.size + 2 ≤ b ∧ b < s1)) ∧ Own makP V mA ms (fun b => s1 ≤ b ∧ b < s2)) ∧ Own grpP V gA gs (fun b => s2 ≤ b ∧ b < s3)) s3 w W r A cap l o (Value.slice rA (List.length rs) rc) (Value.slice mA (List.length ms) mc) (Value.slice gA (List.length gs) gc) (Value.int .i64 tm) a1 d1 (ps.map Prod.fst) a2 d2 (ps.map Prod.snd)) ∧ Hid (LkN (getDl l) g5 4 k ps o)) (fun v _ => 4 - (intOf v).toNat)
  case atStart => exact ⟨0, 0, 0, none, none, [], oL, rfl, by omega, rfl, G0, HLn⟩
  case round =>
    clear G0 HLn t1 f1 q1'
    obtain ⟨k, d1, d2, a1, a2, ps, o, rfl, hk, hxk, G, HLk⟩ := hrel
    obtain ⟨ds, hds⟩ : ∃ ds, Hid (ds = ps.map Prod.fst) := ⟨_, rfl⟩
    obtain ⟨ls, hls⟩ : ∃ ls, Hid (ls = ps.map Prod.snd) := ⟨_, rfl⟩
    rw [← hds.out, ← hls.out] at G
    by_cases hk4 : k < 4
    · have hk4' : (k : Int) < 4 := by omega
      have hln1 : Hid (ds.length ≤ 2000000) := by show _ ≤ _; rw [hds.out]; have := hxk.out; simp; omega
      have hln2 : Hid (ls.length ≤ 2000000) := by show _ ≤ _; rw [hls.out]; have := hxk.out; simp; omega
      have HLk' := hidP (HLk.out.step (stpDl l) rfl hk4)
      clear HLk
      go_wp2_with fail
      refine (l7Num_any r A cap l hl o _ G.out.cb.cu).mono ?_
      rintro e v1 ⟨rfl, k1, h1⟩
      have hb1 := nV_le l o
      have hw1 := k1.size
      have hob1 : Hid (∀ y, (Value.slice a1 (List.length ds) d1).ownBlock = some y → y < v1.heap.size) := fun y hy => Nat.lt_of_lt_of_le (G.out.o1.lt y hy).2 hw1
      have hob2 : Hid (∀ y, (Value.slice a2 (List.length ls) d2).ownBlock = some y → y < v1.heap.size) := fun y hy => Nat.lt_of_lt_of_le (G.out.o2.lt y hy).2 hw1
      have G1 := G.out.call k1 h1
      have hB3 := G1.hB'
      have hB4 := G1.hB
      have hrl := G1.cb.lr
      have Ga0 := hidP (G1.far (Offp.of_below (S := fun _ => False) (alloc0 (Below.refl _ v1) (.cells #[.int .i64 0, .int .i64 0, .string ⟨#[]⟩, .string ⟨#[]⟩] 77))) (fun x e => e.elim) (fun y _ e => e) (fun y _ e => e))
      have Hpa0 := hidP (Blk.new v1 77 #[.int .i64 0, .int .i64 0, .string ⟨#[]⟩, .string ⟨#[]⟩])
      obtain ⟨eb, heb⟩ : ∃ eb, v1.heap.size = eb := ⟨_, rfl⟩
      clear k1 h1 G G1 hw1
      go_wp2_with fail
      refine (l7Num_any r A cap l hl (nO (nS l o)) _ Ga0.out.cb.cu).mono ?_
      rintro e x1 ⟨rfl, k1, h1⟩
      rw [heb] at Hpa0 hob1 hob2 hB3
      obtain ⟨y1, hy1⟩ : ∃ y1, Hid (y1 = (nV (nS l (nO (nS l o))) : Int)) := ⟨_, rfl⟩
      have hb1a := nV_le l (nO (nS l o))
      have hyb1 : 0 ≤ y1 ∧ y1 ≤ 2147483647 := by have := hy1.out; omega
      rw [← hy1.out]
      have pe1 : Blk x1 eb 77 #[.int .i64 0, .int .i64 0, .string ⟨#[]⟩, .string ⟨#[]⟩] := Hpa0.out.only k1 (by omega)
      have hd1 : x1.cell? ⟨eb, 0, none⟩ = some (.int .i64 0) := pe1.cell (i := 0) rfl
      have hf1 := pe1.thaw 0
      have hq1 := pe1.lt
      have kz := Offp.of_only ((Only.refl eb x1).set 0 (Value.int .i64 y1))
      have Ga1 := hidP ((Ga0.out.call k1 h1).far kz (fun x e => by subst e; omega) (fun y hy e => by subst e; have := hob1.out y hy; omega) (fun y hy e => by subst e; have := hob2.out y hy; omega))
      have Hpa1 : Hid (Blk (x1.setCell ⟨eb, 0, none⟩ (Value.int .i64 y1)) eb 77 #[Value.int .i64 y1, .int .i64 0, .string ⟨#[]⟩, .string ⟨#[]⟩]) := hidP (pe1.setAt 0 (Value.int .i64 y1))
      clear k1 h1 pe1 kz Ga0 Hpa0
      go_wp2_with fail
      refine (l7Num_any r A cap l hl (nO (nS l (nO (nS l o)))) _ Ga1.out.cb.cu).mono ?_
      rintro e x2 ⟨rfl, k2, h2⟩
      obtain ⟨y2, hy2⟩ : ∃ y2, Hid (y2 = (nV (nS l (nO (nS l (nO (nS l o))))) : Int) - 1) := ⟨_, rfl⟩
      have hb2a := nV_le l (nO (nS l (nO (nS l o))))
      have hyb2 : -1 ≤ y2 ∧ y2 ≤ 2147483647 := by have := hy2.out; omega
      have pe2 : Blk x2 eb 77 #[Value.int .i64 y1, .int .i64 0, .string ⟨#[]⟩, .string ⟨#[]⟩] := Hpa1.out.only k2 (by omega)
      have hd2 : x2.cell? ⟨eb, 1, none⟩ = some (.int .i64 0) := pe2.cell (i := 1) rfl
      have hf2 := pe2.thaw 1
      have hq2 := pe2.lt
      have kz := Offp.of_only ((Only.refl eb x2).set 1 (Value.int .i64 y2))
      have Ga2 := hidP ((Ga1.out.call k2 h2).far kz (fun x e => by subst e; omega) (fun y hy e => by subst e; have := hob1.out y hy; omega) (fun y hy e => by subst e; have := hob2.out y hy; omega))
      have Hpa2 : Hid (Blk (x2.setCell ⟨eb, 1, none⟩ (Value.int .i64 y2)) eb 77 #[Value.int .i64 y1, Value.int .i64 y2, .string ⟨#[]⟩, .string ⟨#[]⟩]) := hidP (pe2.setAt 1 (Value.int .i64 y2))
      clear k2 h2 pe2 kz Ga1 Hpa1 hd1 hf1 hq1
      have hz2 : (nV (nS l (nO (nS l (nO (nS l o))))) : Int) - 1 = y2 := hy2.out.symm
      go_wp2_with fail
      refine (l7Text_any r A cap l hl hcap hcm (nO (nS l (nO (nS l (nO (nS l o)))))) _ Ga2.out.cb.cu).mono ?_
      rintro e x3 ⟨rfl, k3, h3⟩
      obtain ⟨y3, hy3⟩ : ∃ y3, Hid (y3 = tV (tS l (nO (nS l (nO (nS l (nO (nS l o)))))))) := ⟨_, rfl⟩
      rw [← hy3.out]
      have pe3 : Blk x3 eb 77 #[Value.int .i64 y1, Value.int .i64 y2, .string ⟨#[]⟩, .string ⟨#[]⟩] := Hpa2.out.only k3 (by omega)
      have hd3 : x3.cell? ⟨eb, 2, none⟩ = some (.string ⟨#[]⟩) := pe3.cell (i := 2) rfl
      have hf3 := pe3.thaw 2
      have hq3 := pe3.lt
      have kz := Offp.of_only ((Only.refl eb x3).set 2 (Value.string y3))
      have Ga3 := hidP ((Ga2.out.call k3 h3).far kz (fun x e => by subst e; omega) (fun y hy e => by subst e; have := hob1.out y hy; omega) (fun y hy e => by subst e; have := hob2.out y hy; omega))
      have Hpa3 : Hid (Blk (x3.setCell ⟨eb, 2, none⟩ (Value.string y3)) eb 77 #[Value.int .i64 y1, Value.int .i64 y2, Value.string y3, .string ⟨#[]⟩]) := hidP (pe3.setAt 2 (Value.string y3))
      clear k3 h3 pe3 kz Ga2 Hpa2 hd2 hf2 hq2
      go_wp2_with fail
      refine (l7Text_any r A cap l hl hcap hcm (nO (tS l (nO (nS l (nO (nS l (nO (nS l o)))))))) _ Ga3.out.cb.cu).mono ?_
      rintro e x4 ⟨rfl, k4, h4⟩
      obtain ⟨y4, hy4⟩ : ∃ y4, Hid (y4 = tV (tS l (nO (tS l (nO (nS l (nO (nS l (nO (nS l o)))))))))) := ⟨_, rfl⟩
      rw [← hy4.out]
      have pe4 : Blk x4 eb 77 #[Value.int .i64 y1, Value.int .i64 y2, Value.string y3, .string ⟨#[]⟩] := Hpa3.out.only k4 (by omega)
      have hd4 : x4.cell? ⟨eb, 3, none⟩ = some (.string ⟨#[]⟩) := pe4.cell (i := 3) rfl
      have hf4 := pe4.thaw 3
      have hq4 := pe4.lt
      have kz := Offp.of_only ((Only.refl eb x4).set 3 (Value.string y4))
      have Ga4 := hidP ((Ga3.out.call k4 h4).far kz (fun x e => by subst e; omega) (fun y hy e => by subst e; have := hob1.out y hy; omega) (fun y hy e => by subst e; have := hob2.out y hy; omega))
      have Hpa4 : Hid (Blk (x4.setCell ⟨eb, 3, none⟩ (Value.string y4)) eb 77 #[Value.int .i64 y1, Value.int .i64 y2, Value.string y3, Value.string y4]) := hidP (pe4.setAt 3 (Value.string y4))
      clear k4 h4 pe4 kz Ga3 Hpa3 hd3 hf3 hq3
      obtain ⟨y0, hy0⟩ : ∃ y0 : Int, Hid (y0 = (nV (nS l o) : Int)) := ⟨_, rfl⟩
      have hy0b : 0 ≤ y0 ∧ y0 ≤ 2147483647 := by have := hy0.out; omega
      rw [← hy0.out]
      have ee : Hid (elDl l o = (y0, (⟨y1, y2, y3, y4⟩ : An))) := by
        show _ = _
        rw [hy0.out, hy1.out, hy2.out, hy3.out, hy4.out]
        rfl
      have es : Hid (stDl l o = (nO (tS l (nO (tS l (nO (nS l (nO (nS l (nO (nS l o))))))))))) := hidP rfl
      rw [ee.out, es.out] at HLk'
      clear hy0 hy1 hy2 hy3 hy4 ee es hb1
      generalize (nO (tS l (nO (tS l (nO (nS l (nO (nS l (nO (nS l o)))))))))) = s5 at *
      obtain ⟨a1', d1', X1, hr1, bx1, ko1, F1⟩ := Ga4.out.app1 y0 hln1.out
      have hs4 : (x4.setCell ⟨eb, 3, none⟩ (Value.string y4)).heap.size = x4.heap.size := by simp
      rw [hs4] at hr1
      obtain ⟨a2', d2', X2, hr2, bx2, ko2, F2⟩ := F1.app2 (⟨y1, y2, y3, y4⟩ : An) hln2.out
      have hs1 : (X1.setCell ⟨w.heap.size + 1, 4, none⟩ (.slice a1' (ds.length + 1) d1')).heap.size = X1.heap.size := by simp
      rw [hs1] at hr2
      have hne1 : eb ≠ w.heap.size + 1 := by omega
      have hne2 : w.heap.size + 1 ≠ eb := by omega
      have pa1 : Blk X1 eb 77 #[Value.int .i64 y1, Value.int .i64 y2, Value.string y3, Value.string y4] := (Hpa4.out.alloc _).offp ko1 (fun e => by have := hob1.out _ e; omega)
      have u0' : X1.cell? ⟨eb, 0, none⟩ = some (Value.int .i64 y1) := pa1.cell (i := 0) rfl
      have u1' : X1.cell? ⟨eb, 1, none⟩ = some (Value.int .i64 y2) := pa1.cell (i := 1) rfl
      have u2' : X1.cell? ⟨eb, 2, none⟩ = some (Value.string y3) := pa1.cell (i := 2) rfl
      have u3' : X1.cell? ⟨eb, 3, none⟩ = some (Value.string y4) := pa1.cell (i := 3) rfl
      have uq := pa1.lt
      have b4 : (x4.setCell ⟨eb, 3, none⟩ (Value.string y4)).cell? ⟨w.heap.size + 1, 4, none⟩ = some (.slice a1 (List.length ds) d1) := Ga4.out.box.cell (i := 4) rfl
      have q4 := Ga4.out.box.lt
      have b4' : X1.cell? ⟨w.heap.size + 1, 4, none⟩ = some (.slice a1 (List.length ds) d1) := bx1.cell (i := 4) rfl
      have f4' := bx1.thaw 4
      have q4' := bx1.lt
      have b5 : X1.cell? ⟨w.heap.size + 1, 5, none⟩ = some (.slice a2 (List.length ls) d2) := bx1.cell (i := 5) rfl
      have b5' : X2.cell? ⟨w.heap.size + 1, 5, none⟩ = some (.slice a2 (List.length ls) d2) := bx2.cell (i := 5) rfl
      have f5' := bx2.thaw 5
      have q5' := bx2.lt
      have hxk2 : Hid ((ps ++ [(y0, (⟨y1, y2, y3, y4⟩ : An))]).length = k + 1) := by show _ = _; have := hxk.out; simp; omega
      have F3 : Hid (KV (fun V => ((True ∧ Own rowP V rA rs (fun b => w.heap.size + 2 ≤ b ∧ b < s1)) ∧ Own makP V mA ms (fun b => s1 ≤ b ∧ b < s2)) ∧ Own grpP V gA gs (fun b => s2 ≤ b ∧ b < s3)) s3 w (X2.setCell ⟨w.heap.size + 1, 5, none⟩ (.slice a2' (ls.length + 1) d2')) r A cap l s5 (Value.slice rA (List.length rs) rc) (Value.slice mA (List.length ms) mc) (Value.slice gA (List.length gs) gc) (Value.int .i64 tm) a1' d1' ((ps ++ [(y0, (⟨y1, y2, y3, y4⟩ : An))]).map Prod.fst) a2' d2' ((ps ++ [(y0, (⟨y1, y2, y3, y4⟩ : An))]).map Prod.snd)) := by
        show KV _ _ _ _ _ _ _ _ _ _ _ _ _ _ _ _ _ _ _
        rw [List.map_append, List.map_append, ← hds.out, ← hls.out]
        exact F2
      clear hs4 hs1 bx1 bx2 F1 F2 Ga4 Hpa4 pa1 ko1 ko2 hln1 hln2 hxk hds hls hob1 hob2
      go_wp2_with (at_builtin; first | refine wpList_append_is rfl _ _ _ rfl _ _ _ rfl rfl hr1 ?_ | refine wpList_append_is rfl _ _ _ rfl _ _ _ rfl rfl hr2 ?_)
      exact ⟨⟨k + 1, d1', d2', a1', a2', ps ++ [(y0, (⟨y1, y2, y3, y4⟩ : An))], s5, by go_num, by omega, hxk2, F3, HLk'⟩, by simp [intOf]; omega⟩
    · obtain rfl : k = 4 := by omega
      have HN : Hid (Rel (getKp R l) c0 (⟨rs.map RC.p, ms.map MC.p, gs.map GC.p, tm, ds, ls⟩ : PK) o) := by
        have e := Ho0.out
        subst e
        have h5 := HLk.out.end
        rw [← HG5.out] at h5
        have hA := hG1.out
        rw [← HG1.out] at hA
        have hB := hG2.out
        rw [← HG2.out] at hB
        have hC := hG3.out
        rw [← HG3.out] at hC
        rw [htm.out, hds.out, hls.out]
        exact Rel.of_map (linkKp R l c0 _ _ _ ps o1 o2 o3 o hP1.out hP2.out hP3.out hA hB hC h5) HLk.out.pos
      clear HLk HG1 HG2 HG3 HG5 hG1 hG2 hG3 htm hds hls
      have bb := G.out.box
      have rr := G.out.res
      have M1 := G.out.o1
      have M2 := G.out.o2
      have D12 := hidP G.out.dis
      have hB3 := G.out.hB'
      have e0 : wr.cell? ⟨w.heap.size + 1, 0, none⟩ = some (Value.slice rA (List.length rs) rc) := bb.cell (i := 0) rfl
      have e1 : wr.cell? ⟨w.heap.size + 1, 1, none⟩ = some (Value.slice mA (List.length ms) mc) := bb.cell (i := 1) rfl
      have e2 : wr.cell? ⟨w.heap.size + 1, 2, none⟩ = some (Value.slice gA (List.length gs) gc) := bb.cell (i := 2) rfl
      have e3 : wr.cell? ⟨w.heap.size + 1, 3, none⟩ = some (Value.int .i64 tm) := bb.cell (i := 3) rfl
      have e4 : wr.cell? ⟨w.heap.size + 1, 4, none⟩ = some (Value.slice a1 (List.length ds) d1) := bb.cell (i := 4) rfl
      have e5 : wr.cell? ⟨w.heap.size + 1, 5, none⟩ = some (Value.slice a2 (List.length ls) d2) := bb.cell (i := 5) rfl
      have qx := bb.lt
      have r0 : wr.cell? ⟨w.heap.size, 0, none⟩ = some (.slice none 0 0) := rr.cell (i := 0) rfl
      have z0 := rr.thaw 0
      have r1 : wr.cell? ⟨w.heap.size, 1, none⟩ = some (.slice none 0 0) := rr.cell (i := 1) rfl
      have z1 := rr.thaw 1
      have r2 : wr.cell? ⟨w.heap.size, 2, none⟩ = some (.slice none 0 0) := rr.cell (i := 2) rfl
      have z2 := rr.thaw 2
      have r3 : wr.cell? ⟨w.heap.size, 3, none⟩ = some (.int .i64 0) := rr.cell (i := 3) rfl
      have z3 := rr.thaw 3
      have r4 : wr.cell? ⟨w.heap.size, 4, none⟩ = some (.slice none 0 0) := rr.cell (i := 4) rfl
      have z4 := rr.thaw 4
      have r5 : wr.cell? ⟨w.heap.size, 5, none⟩ = some (.slice none 0 0) := rr.cell (i := 5) rfl
      have z5 := rr.thaw 5
      have qr := rr.lt
      have oA := (((((((Only.refl w.heap.size wr).set 0 (Value.slice rA (List.length rs) rc)).set 1 (Value.slice mA (List.length ms) mc)).set 2 (Value.slice gA (List.length gs) gc)).set 3 (Value.int .i64 tm)).set 4 (Value.slice a1 (List.length ds) d1)).set 5 (Value.slice a2 (List.length ls) d2))
      have HCz := hidP (G.out.cb.offp (Offp.of_only oA) (fun x e => by subst e; exact Nat.le_refl _))
      have hs1' := hs1.out
      have hs2' := hs2.out
      have hs3' := hs3.out
      have hsz := G.out.hB
      have N1 := hidP (owns_only' M1 oA (by omega))
      have N2 := hidP (owns_only' M2 oA (by omega))
      have HP := hidP (G.out.stay _ _ _ G.out.pk (Offp.of_only oA) (fun y e => by subst e; exact .inl (by omega)))
      have hsZ := hidP (Nat.le_trans hB3 oA.size)
      clear oA bb rr M1 M2 G hB3 hs1' hs2' hs3' hsz
      go_wp2
      refine bodyPost_ret (v := .agg #[Value.slice rA (List.length rs) rc, Value.slice mA (List.length ms) mc, Value.slice gA (List.length gs) gc, Value.int .i64 tm, Value.slice a1 (List.length ds) d1, Value.slice a2 (List.length ls) d2]) (by simp [results, Tryz.results14, go_sem, r0, r1, r2, r3, r4, r5]) rfl ?_
      exact ⟨⟨rs.map RC.p, ms.map MC.p, gs.map GC.p, tm, ds, ls⟩, _, o, rfl, ⟨⟨rA, rc, rs, mA, mc, ms, gA, gc, gs, tm, a1, d1, ds, a2, d2, ls⟩, rfl, rfl, kown_make (s0 := w.heap.size + 2) ⟨HP.out.1.1.2, HP.out.1.2, HP.out.2⟩ hs1.out hs2.out hs3.out N1.out N2.out D12.out hsZ.out (by omega)⟩, HCz.out.only, HCz.out.cu, HN.out⟩
end Go.Proofs.YtjjbbkmedpfenaaGreat.Gen
