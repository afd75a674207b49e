/-
  The program's drive torn, behind its lock. No condition but that the disk is right.
-/
import Derived.Test.YtdcngbkcammjoaaDk6
namespace Go.Proofs.Ytdcngbkcammjoaa.Gen
open Go.ChangeShapes Go.WideShapes Go.ChangeAt Go.RowKit Go.Joins Go.Deep Base Go.MuLone
set_option linter.unusedVariables false
set_option linter.unusedSimpArgs false

/-- What tear leaves: the beginning alone, with no room behind it. -/
def ToldT (w0 : World) (d : Nat) (su n : Int) (a : Option Addr) (l : List UInt8) (F : List Nat) (fn : Nat) (w' : World) : Prop := Below w0.heap.size w0 w' ∧
      Blk w' d 62 #[.int .i32 0, .int .u32 0, .slice a fn fn, .int .i64 su, .int .i64 n] ∧ Sl w' a l F

set_option maxRecDepth 100000 in
set_option maxHeartbeats 2000000 in
theorem tear_any (w0 : World) (d : Nat) (a : Option Addr) (c : Nat) (su n keep : Int) (l : List UInt8) (F : List Nat) (hb : diskB su l.length = true) (hc : l.length ≤ c ∧ c ≤ maxLen) (w : World) (hw : Below w0.heap.size w0 w) (hd : w0.heap.size ≤ d)
    (h : Blk w d 62 #[.int .i32 0, .int .u32 0, .slice a l.length c, .int .i64 su, .int .i64 n]) (hs : Sl w a l F) (hF : ∀ x ∈ F, w0.heap.size ≤ x) (hn : d ∉ F) :
    Calls Try.prog 34 #[.pointer (some ⟨d, 0, none⟩), .int .i64 keep] w fun e w' => e = .returned (.tuple #[]) ∧ ToldT w0 d su n a l F (fallN su l.length keep) w' := by
  obtain ⟨hl, b0, b1⟩ := diskB_out hb
  obtain ⟨hc1, hc2⟩ := hc
  obtain ⟨y0, y1, y2, y3⟩ := fall_fit hb keep
  have hZ : Hid (fallZ su l.length keep = max 0 (min keep ((l.length : Int) - su))) := rfl
  generalize fallN su l.length keep = fn at y2 y3 ⊢
  generalize fallZ su l.length keep = fz at y0 y1 y2 hZ
  obtain ⟨h0, -, -, -, -⟩ := h.row5d
  have f0 := h.thaw 0
  have h2 : Blk (w.setCell ⟨d, 0, none⟩ (.int .i32 1)) d 62 #[.int .i32 1, .int .u32 0, .slice a l.length c, .int .i64 su, .int .i64 n] := h.setAt 0 (.int .i32 1)
  have g2 : Below w0.heap.size w0 (w.setCell ⟨d, 0, none⟩ (.int .i32 1)) := bl_set hw hd _
  have s2 : Sl (w.setCell ⟨d, 0, none⟩ (.int .i32 1)) a l F := Sl.set1 hs hn
  have HF := hidP hF
  clear hs hF
  go_enter_defers Try.func34, Try.ntmps34
  go_wp2_with fail
  refine (lock_free muLib ⟨d, 0, none⟩ _ h0 f0).mono ?_
  rintro e w' ⟨rfl, rfl⟩
  generalize w.setCell ⟨d, 0, none⟩ (.int .i32 1) = W2 at h2 g2 s2 ⊢
  have S2 := hidP s2
  clear h0 f0 h hw s2
  obtain ⟨c0, c1, c2, c3, c4⟩ := h2.row5d
  have q2 := h2.lt
  obtain ⟨mx, hmx⟩ : ∃ mx : Int, (if 0 > keep then 0 else keep) = mx := ⟨_, rfl⟩
  have hmn : (if (l.length : Int) - su < mx then (l.length : Int) - su else mx) = fz := by rw [hZ.out]; split at hmx <;> split <;> omega
  have hmx' : (if keep < 0 then 0 else keep) = mx := hmx
  have hw2 : IntKind.i64.wrap (su + fz) = (fn : Int) := by rw [IntKind.wrap_i64]; omega
  clear hmx
  go_wp2_with fail
  go_region_held3 (fun w' => w'.cell? ⟨d, 2, none⟩ = some (.slice a l.length c) ∧ w'.cell? ⟨d, 3, none⟩ = some (.int .i64 su))
    (first | (go_split_ands; refine ⟨?_, ?_⟩ <;> first | assumption | exact (k1 _ _ (by assumption)).trans (by assumption)) | go_keep)
    (first
      | (go_at_call 41; refine (notSure_any su a c l.length (by omega) b0 b1 _).mono ?_; rintro e w3 ⟨rfl, g3⟩; obtain ⟨k1, m1⟩ := bcell g3))
  all_goals
    rw [← y2]
    have g23 : Below W2.heap.size W2 w3 := by repeat (first | exact Below.refl _ _ | assumption | refine via0 (by assumption) ?_ | refine Below.drew ?_ | refine alloc0 ?_ _)
    have g03 := via0 g23 g2
    have h3 := h2.below g23 h2.lt
    have S3 := hidP (S2.out.below g23)
    go_split_ands
    clear g3 k1 m1 g23 c0 c1 c2 c3 c4 hw2 hmn hmx' y2
    have h4 : Blk (w3.setCell ⟨d, 2, none⟩ (.slice a fn fn)) d 62 #[.int .i32 1, .int .u32 0, .slice a fn fn, .int .i64 su, .int .i64 n] := h3.setAt 2 _
    have h5 : Blk ((w3.setCell ⟨d, 2, none⟩ (.slice a fn fn)).setCell ⟨d, 0, none⟩ (.int .i32 0)) d 62 #[.int .i32 0, .int .u32 0, .slice a fn fn, .int .i64 su, .int .i64 n] := h4.setAt 0 _
    obtain ⟨c0, c1, c2, c3, c4⟩ := h3.row5d
    have k2 := h3.thaw 2
    obtain ⟨x0, -, -, -, -⟩ := h4.row5d
    have k0 := h4.thaw 0
    have H5 := hidP h5
    have hcut : ∀ W : World, (Instr.slice 22 (.slice a l.length c) none (some (.int .i64 (fn : Int))) (some (.int .i64 (fn : Int)))).run Try.prog W = .ok (.slice a fn fn) W := fun W => cut_end8 a l.length c fn (by omega) hc2 W
    clear h5 h4
    go_wp2
    refine leaves_cons (f := 37) (args := #[.pointer (some ⟨d, 0, none⟩)]) (by simp) (by simp [go_sem]) ?_
    refine (unlock_deferred muLib ⟨d, 0, none⟩ .returning _ x0 k0).mono ?_
    rintro e u' w'' ⟨rfl, rfl, rfl⟩
    exact ⟨_, results_none rfl _ _ _, rfl, bl_set (bl_set g03 hd _) hd _, H5.out, Sl.set1 (Sl.set1 S3.out hn) hn⟩
end Go.Proofs.Ytdcngbkcammjoaa.Gen
