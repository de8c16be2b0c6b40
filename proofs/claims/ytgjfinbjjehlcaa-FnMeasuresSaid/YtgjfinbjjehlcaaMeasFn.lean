/- What the draws of measures leave. -/
import Derived.Test.YtgjfinbjjehlcaaRampFn
import Derived.Laws.AppendOwn
namespace Go.Proofs.Ytgjfinbjjehlcaa.MeasFn
open Go.RowKit Go.Proofs.Ytgjfinbjjehlcaa.Mem Go.Proofs.Ytgjfinbjjehlcaa.Draw Go.Proofs.Ytgjfinbjjehlcaa.RampFn

/-- What the draw of a measure and a number leaves. -/
def Drawn2 (w : World) (e : Ending) (w' : World) : Prop :=
  ∃ a b : Int, e = .returned (.tuple #[.int .i64 a, .int .i64 b]) ∧ wf a ∧ wf b ∧ Below w.heap.size w w'

set_option maxHeartbeats 1000000 in
theorem drawT (w : World) (A : Option Addr) (n c : Nat) (bs : List UInt8) (hn : bs.length = n) (hb : n ≤ 4096) (hr : Rd w w.heap.size A (u8s bs)) :
    Calls Try.prog 12 #[.slice A n c] w (Drawn2 w) := by
  have N0 := Lib.hid (new w A n c bs hn hb hr)
  clear hn hb hr
  go_enter Try.func12, Try.ntmps12
  go_wp2_with fail
  refine N0.out.mono ?_
  rintro e w1 ⟨g, rfl, hg, r1, b1⟩
  have R1 := Lib.hid r1
  have B1 := Lib.hid b1
  have G := Lib.hid hg
  clear r1 b1 N0 hg
  go_wp2_with fail
  refine (once R1.out 5 (by decide) (by decide)).mono ?_
  rintro e w2 ⟨x, rfl, k1, k2⟩
  have R2 := Lib.hid (R1.out.next k2 k1)
  have B2 := Lib.hid (B1.out.grown k2 B1.out.size (fun k hk => by cases hk; exact G.out))
  clear k1 k2 R1 B1
  cases x
  · go_wp2_with fail
    refine (some_ R2.out (-60) 60 (by decide) (by decide) (by decide)).mono ?_
    rintro e w3 ⟨x1, ⟨x11, x12⟩, rfl, k1, k2⟩
    have R3 := Lib.hid (R2.out.next k2 k1)
    have B3 := Lib.hid (B2.out.grown k2 B2.out.size (fun k hk => by cases hk; exact G.out))
    clear k1 k2 R2 B2
    go_wp2_with fail
    refine (below R3.out 160 (by decide) (by decide)).mono ?_
    rintro e w4 ⟨x2, ⟨x21, x22⟩, rfl, k1, k2⟩
    have B4 := Lib.hid (B3.out.grown k2 B3.out.size (fun k hk => by cases hk; exact G.out))
    clear k1 k2 R3 B3
    go_wp2_with fail
    refine bodyPost_ret (v := .tuple #[.int .i64 x1, .int .i64 (x2 - 60)]) (by simp [results, Try.results12, go_sem]) rfl ⟨x1, x2 - 60, rfl, wf_of_small (by omega) (by omega), wf_of_small (by omega) (by omega), B4.out⟩
  · go_wp2_with fail
    refine (bent R2.out).mono ?_
    rintro e w3 ⟨x1, X1, rfl, k1, k2⟩
    have X1 := Lib.hid X1
    have R3 := Lib.hid (R2.out.next k2 k1)
    have B3 := Lib.hid (B2.out.grown k2 B2.out.size (fun k hk => by cases hk; exact G.out))
    clear k1 k2 R2 B2
    go_wp2_with fail
    refine (odd R3.out).mono ?_
    rintro e w4 ⟨x2, X2, rfl, k1, k2⟩
    have X2 := Lib.hid X2
    have B4 := Lib.hid (B3.out.grown k2 B3.out.size (fun k hk => by cases hk; exact G.out))
    clear k1 k2 R3 B3
    go_wp2_with fail
    refine bodyPost_ret (v := .tuple #[.int .i64 x1, .int .i64 x2]) (by simp [results, Try.results12, go_sem]) rfl ⟨x1, x2, rfl, X1.out, X2.out, B4.out⟩

/-- What the draw of a list leaves. -/
def DrawnL (w : World) (e : Ending) (w' : World) : Prop :=
  ∃ (v : Value) (zs : List Int) (c : Nat) (g : Nat), e = .returned v ∧ v = .slice (some ⟨g, 0, none⟩) zs.length c ∧ zs.length ≤ 7 ∧ w'.ownsRow w.heap.size 3 1 v zs.length (ints zs) ∧ Below w.heap.size w w'

theorem infoInt : (Try.prog.info? 3).map (fun i => (i.zero, i.size, i.bytes)) = some (some (.int .i64 0), 1, 8) := by kernel_rfl
theorem ints_snoc (zs : List Int) (z : Int) : ints zs ++ [.int .i64 z] = ints (zs ++ [z]) := by simp [ints]
/-- An append leaves a row with a place. -/
theorem own_mk {w : World} {base n : Nat} {v : Value} {xs : List Value} (h : w.ownsRow base 3 1 v (n + 1) xs) : ∃ g c, v = .slice (some ⟨g, 0, none⟩) (n + 1) c := by
  rcases h.2 with ⟨_, e⟩ | ⟨g, cap, cur, e, _⟩
  · omega
  · exact ⟨g, cap, e⟩
theorem own_base {w : World} {base n : Nat} {v : Value} {xs : List Value} (h : w.ownsRow base 3 1 v n xs) : ∀ k, v.ownBlock = some k → base ≤ k := fun k e => (h.lt k e).1
theorem own_le {w : World} {b b' n : Nat} {v : Value} {xs : List Value} (h : w.ownsRow b 3 1 v n xs) (hb : b' ≤ b) : w.ownsRow b' 3 1 v n xs :=
  ⟨h.1, h.2.imp id fun ⟨g, cap, cur, e1, e2, r⟩ => ⟨g, cap, cur, e1, Nat.le_trans hb e2, r⟩⟩
theorem apart {w : World} {base g n : Nat} {v : Value} {xs : List Value} (h : w.ownsRow base 3 1 v n xs) (hg : g < base) : v.ownBlock = none ∨ v.ownBlock ≠ some g := Or.inr fun e => by have := (h.lt g e).1; omega

/-- The cursor stands while another row is written. -/
theorem ready_row {w w' : World} {g n c base : Nat} {A : Option Addr} {bs : List UInt8} {row : Option Nat} (h : Ready w g A n c bs) (k : w.grownBy w' row) (hr : ∀ j, row = some j → base ≤ j) (hg : g < base) : Ready w' g A n c bs := by
  refine ⟨h.len, h.max, ?_, h.cur.kept (k.block g h.cur.lt (fun e => by have := hr g e.symm; omega))⟩
  rcases h.rd with h1 | ⟨b, o, e, hb, hx⟩
  · exact Or.inl h1
  · exact Or.inr ⟨b, o, e, hb, fun j v hv => k.cell (hx j v hv) (fun e2 => by have := hr b (by rw [← e2]); omega)⟩

set_option maxRecDepth 100000 in
set_option maxHeartbeats 2000000 in
theorem drawS (w : World) (A : Option Addr) (n c : Nat) (bs : List UInt8) (hn : bs.length = n) (hb : n ≤ 4096) (hr : Rd w w.heap.size A (u8s bs)) :
    Calls Try.prog 17 #[.slice A n c] w (DrawnL w) := by
  obtain ⟨i0, hi, hz0, hz1, hz2⟩ := info_parts infoInt
  have N0 := Lib.hid (new w A n c bs hn hb hr)
  clear hn hb hr
  go_enter Try.func17, Try.ntmps17
  go_wp2_with fail
  refine N0.out.mono ?_
  rintro e w1 ⟨g, rfl, hg, r1, b1⟩
  have GL := Lib.hid r1.cur.lt
  have R1 := Lib.hid (r1.alloc (.cells #[] 3))
  have O1 := Lib.hid (World.ownsRow_lit (base := w1.heap.size) (e := 3) (size := 1) w1 #[] 0 (Nat.le_refl _) (Nat.zero_le _) rfl)
  have B1 := Lib.hid (b1.alloc b1.size (.cells #[] 3))
  have BS := Lib.hid b1.size
  have G := Lib.hid hg
  clear r1 b1 N0 hg
  go_wp2_with fail
  refine (below R1.out 7 (by decide) (by decide)).mono ?_
  rintro e w2 ⟨x, ⟨x1, x2⟩, rfl, k1, k2⟩
  have R2 := Lib.hid (R1.out.next k2 k1)
  have O2 := Lib.hid (O1.out.kept k2 (apart O1.out GL.out))
  have B2 := Lib.hid (B1.out.grown k2 B1.out.size (fun k hk => by cases hk; exact G.out))
  have S2 := Lib.hid (show w1.heap.size ≤ w2.heap.size by have := k2.size; simp at this; omega)
  clear k1 k2 R1 O1 B1
  go_wp2_with fail
  go_loopw [4, 5] (fun v q wr => ∃ (k : Nat) (zs : List Int), q = .int .i64 k ∧ zs.length + k ≤ 7 ∧ (∃ b d, v = .slice (some ⟨b, 0, none⟩) zs.length d) ∧ Hid (Ready wr g A n c bs) ∧ Hid (wr.ownsRow w1.heap.size 3 1 v zs.length (ints zs)) ∧ Hid (Below w.heap.size w wr) ∧ Hid (w1.heap.size ≤ wr.heap.size)) (fun _ q _ => (intOf q).toNat)
  case atStart => exact ⟨x.toNat, [], by congr 1; omega, by simp; omega, ⟨_, _, rfl⟩, R2, O2, B2, S2⟩
  case round =>
    obtain ⟨k, zs, rfl, hk, ⟨bb, dd, rfl⟩, RK, OK, BK, SK⟩ := hrel
    by_cases h0 : 0 < k
    · go_wp2_with fail
      refine (bent RK.out).mono ?_
      rintro e w3 ⟨y, _, rfl, k1, k2⟩
      have R3 := Lib.hid ((RK.out.next k2 k1).alloc (.cells #[.int .i64 1, .int .i64 1, .int .i64 20] 3))
      have O3 := Lib.hid ((OK.out.kept k2 (apart OK.out GL.out)).alloc (.cells #[.int .i64 1, .int .i64 1, .int .i64 20] 3))
      have B3 := Lib.hid ((BK.out.grown k2 BK.out.size (fun k hk => by cases hk; exact G.out)).alloc (by have := BK.out.size; have := k2.size; omega) (.cells #[.int .i64 1, .int .i64 1, .int .i64 20] 3))
      have S3 := Lib.hid (show w1.heap.size ≤ w3.heap.size by have := SK.out; have := k2.size; omega)
      have P := Lib.hid (pick R3.out w3.heap.size 0 3 [1, 1, 20] (by have := GL.out; have := S3.out; omega) (by decide) (by decide) (cells_at w3 [1, 1, 20] 3))
      clear k1 k2 RK OK BK
      go_wp2_with fail
      refine P.out.mono ?_
      rintro e w4 ⟨z, _, rfl, k1, k2⟩
      have R4 := Lib.hid (R3.out.next k2 k1)
      have O4 := Lib.hid (O3.out.kept k2 (apart O3.out GL.out))
      have B4 := Lib.hid (B3.out.grown k2 B3.out.size (fun k hk => by cases hk; exact G.out))
      have S4 := Lib.hid (show w1.heap.size ≤ w4.heap.size by have := S3.out; have := k2.size; simp at this; omega)
      clear k1 k2 R3 O3 B3 S3 P
      have hown := O4.out.alloc
      have hz4 := S4.out
      have HS := Lib.hid (own_base O4.out)
      go_wp2_with (at_builtin; refine wpList_append_own _ rfl _ _ 29 rfl w1.heap.size 3 i0 (.int .i64 0) 1 8 Try.underlying29 hi hz0 hz1 hz2 rfl (by decide) _ _ _ rfl (hown _) ⟨w4.heap.size, 0, none⟩ 1 1 [.int .i64 (wrap64 (y * z))] rfl rfl (by intro j u hj; match j, hj with | 0, hj => simp at hj; subst hj; simp [Addr.add]) (by intro u hu; simp at hu; subst hu; rfl) (by unfold maxLen; omega) (by omega) (by simp; omega) ?_; intro v' w5 hown' hgrow hnil)
      rw [ints_snoc] at hown'
      have hsh := own_mk hown'
      have OO := Lib.hid hown'
      have BB := Lib.hid ((B4.out.alloc (B4.out.size) _).grown hgrow (by simp; have := B4.out.size; omega) (fun j hj => Nat.le_trans BS.out (HS.out j hj)))
      have RR := Lib.hid (ready_row (R4.out.alloc _) hgrow HS.out GL.out)
      have SS := Lib.hid (show w1.heap.size ≤ w5.heap.size by have := hgrow.size; simp at this; omega)
      clear hown' hgrow hnil R4 O4 B4 S4 hown hz4 HS
      go_wp2_with fail
      go_roundw
      case rel => exact ⟨k - 1, zs ++ [wrap64 (y * z)], by congr 1; omega, by simp; omega, by rw [List.length_append]; exact hsh, RR, by rw [List.length_append]; exact OO, BB, SS⟩
      case measure => simp [intOf]; omega
    · obtain rfl : k = 0 := by omega
      go_wp2_with fail
      go_ret
      exact ⟨_, zs, dd, bb, rfl, rfl, by omega, own_le OK.out BS.out, BK.out⟩

end Go.Proofs.Ytgjfinbjjehlcaa.MeasFn
