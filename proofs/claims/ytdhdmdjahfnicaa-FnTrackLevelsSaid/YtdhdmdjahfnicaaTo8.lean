/- The track of a name, of the program and of the model. -/
import Derived.Test.YtdhdmdjahfnicaaLm7
import Derived.Test.YtdhdmdjahfnicaaLi7
import Derived.Test.YtdhdmdjahfnicaaSi7
import Derived.Test.YtdhdmdjahfnicaaInts
import Derived.Handy
namespace Go.Proofs.Ytdhdmdjahfnicaa.To8
open Go.RowKit Go.ChangeShapes Go.WideShapes Go.WideElems Go.Deep Go.Proofs.Ytdhdmdjahfnicaa.Mem Go.Proofs.Ytdhdmdjahfnicaa.Rw Go.Proofs.Ytdhdmdjahfnicaa.P2 Go.Proofs.Ytdhdmdjahfnicaa.Cd Go.Proofs.Ytdhdmdjahfnicaa.Cv Go.Proofs.Ytdhdmdjahfnicaa.Cl Go.Proofs.Ytdhdmdjahfnicaa.Cs
set_option linter.unusedVariables false
set_option linter.unusedSimpArgs false
open Go.Proofs.Ytdhdmdjahfnicaa.Sd Go.Proofs.Ytdhdmdjahfnicaa.Tn Go.Proofs.Ytdhdmdjahfnicaa.Oc Go.Proofs.Ytdhdmdjahfnicaa.Ld Go.Proofs.Ytdhdmdjahfnicaa.Lm7 Go.Proofs.Ytdhdmdjahfnicaa.Li7 Go.Proofs.Ytdhdmdjahfnicaa.Si7 Go.Proofs.Ytdhdmdjahfnicaa.Sm7
open Go.Proofs.Ytdhdmdjahfnicaa.Rw (owns_below owns_base owns_grown grown_trans grown_refl)

theorem wf_small {k : Nat} (h : k < 64) : (Lit.int .i64 (k : Int)).wf = true := by
  have h9 : (k : Int) < 64 := by omega
  have h8 : 0 ≤ (k : Int) := by omega
  simp only [Lit.wf, IntKind.min, IntKind.max, Bool.and_eq_true, decide_eq_true_eq]
  first | omega | (constructor <;> (simp [IntKind.min, IntKind.max, IntKind.bits, IntKind.signed] <;> omega))
/-- The levels of a name at the first ticks. -/
noncomputable def trN (zs : List C) (s : ByteArray) (k : Nat) : List Int := (List.range k).map fun (t : Nat) => levV zs s (t : Int)
theorem trN_len (zs : List C) (s : ByteArray) (k : Nat) : (trN zs s k).length = k := by simp [trN]
theorem trN_snoc (zs : List C) (s : ByteArray) (k : Nat) : ints (trN zs s (k + 1)) = ints (trN zs s k) ++ [.int .i64 (levV zs s (k : Int))] := by simp [trN, ints, List.range_succ]
theorem trN_get (zs : List C) (s : ByteArray) {k p : Nat} (h : k < p) : (ints (trN zs s p))[k]? = some (.int .i64 (levV zs s (k : Int))) := by simp [trN, ints, h]
/-- A track of a name. -/
noncomputable def trV (zs : List C) (s : ByteArray) (x : Int) : List Int := bif score zs && (decide (0 ≤ x) && decide (x ≤ 64)) then trN zs s x.toNat else []
theorem trV_yes {zs : List C} {s : ByteArray} {p : Nat} (h : score zs = true) (hp : p ≤ 64) : trV zs s (p : Int) = trN zs s p := by
  unfold trV; rw [h, decide_eq_true (by omega), decide_eq_true (by omega)]; rfl
theorem trV_no {zs : List C} {s : ByteArray} {x : Int} (h : score zs = false ∨ x < 0 ∨ 64 < x) : trV zs s x = [] := by
  unfold trV
  rcases h with h | h | h
  · rw [h]; rfl
  · rw [decide_eq_false (p := 0 ≤ x) (by omega)]; cases score zs <;> rfl
  · rw [decide_eq_false (p := x ≤ 64) (by omega), Bool.and_false]; cases score zs <;> rfl
theorem trV_neg {zs : List C} {s : ByteArray} {x : Int} (h : ¬ 0 < x) : trV zs s x = [] := by
  by_cases h9 : x < 0
  · exact trV_no (Or.inr (Or.inl h9))
  · obtain rfl : x = 0 := by omega
    unfold trV; cases score zs <;> rfl
theorem trV_len (zs : List C) (s : ByteArray) (x : Int) : (trV zs s x).length ≤ 64 := by
  by_cases h : 0 ≤ x ∧ x ≤ 64
  · obtain ⟨p, rfl⟩ := Int.eq_ofNat_of_zero_le h.1
    cases hs : score zs
    · rw [trV_no (Or.inl hs)]; exact Nat.zero_le _
    · rw [trV_yes hs (by omega), trN_len]; omega
  · rw [trV_no (Or.inr (by omega))]; exact Nat.zero_le _
/-- A list of the call's own that holds these numbers. -/
def RowI (w : World) (ds : List Int) (e : Ending) (w' : World) : Prop :=
  ∃ g c, e = .returned (.slice (some ⟨g, 0, none⟩) ds.length c) ∧ w'.ownsRow w.heap.size 3 1 (.slice (some ⟨g, 0, none⟩) ds.length c) ds.length (ints ds) ∧ Below w.heap.size w w'
theorem own_mk {w : World} {base n : Nat} {v : Value} {xs : List Value} (h : w.ownsRow base 3 1 v (n + 1) xs) : ∃ g c, v = .slice (some ⟨g, 0, none⟩) (n + 1) c := by
  rcases h.2 with ⟨_, e⟩ | ⟨g, cap, cur, e, _⟩
  · omega
  · exact ⟨g, cap, e⟩
theorem own_base {w : World} {base n : Nat} {v : Value} {xs : List Value} (h : w.ownsRow base 3 1 v n xs) : ∀ k, v.ownBlock = some k → base ≤ k := fun k e => (h.lt k e).1
theorem own_at {w : World} {base : Nat} {e : TypeId} {size g n c : Nat} {xs : List Value} (h : w.ownsRow base e size (.slice (some ⟨g, 0, none⟩) n c) n xs) : base ≤ g := (h.lt g rfl).1
theorem row_nil (w : World) : RowI w [] (.returned (.slice (some ⟨w.heap.size, 0, none⟩) 0 0)) (w.alloc (.cells #[] 3)) :=
  ⟨_, _, rfl, World.ownsRow_lit (base := w.heap.size) (e := 3) (size := 1) w #[] 0 (Nat.le_refl _) (Nat.zero_le _) rfl, (Below.refl _ _).alloc (Nat.le_refl _) _⟩
theorem RowI.from {w w1 : World} {zs : List Int} {e : Ending} {w' : World} (h : RowI w1 zs e w') (hb : Below w.heap.size w w1) : RowI w zs e w' := by
  obtain ⟨g, c, e1, ho, hb2⟩ := h
  exact ⟨g, c, e1, owns_base ho (Nat.le_trans hb.size (own_at ho)), hb.trans (hb2.mono hb.size)⟩

def iw (x a b : Int) : Bool := decide (a ≤ x) && decide (x ≤ b)
theorem iw_iff {x a b : Int} : iw x a b = true ↔ a ≤ x ∧ x ≤ b := by unfold iw; rw [Bool.and_eq_true, decide_eq_true_eq, decide_eq_true_eq]
theorem iw_no {x a b : Int} (h : x < a ∨ b < x) : iw x a b = false := by
  rw [← Bool.not_eq_true, iw_iff]; omega
theorem isWithin (x a b : Int) (w : World) : Calls Try.prog 52 #[.int .i64 x, .int .i64 a, .int .i64 b] w fun e w' => e = .returned (.bool (iw x a b)) ∧ w = w' := by
  go_enter Try.func52, Try.ntmps52
  go_wp2
  all_goals go_returns
  · rename_i h
    refine ⟨?_, rfl⟩
    show Ending.returned (.bool (decide (x ≤ b))) = _
    unfold iw; rw [decide_eq_true h]; rfl
  · rename_i h
    refine ⟨?_, rfl⟩
    show Ending.returned (.bool false) = _
    rw [iw_no (by omega)]
theorem isWithin_of {x a b : Int} {r : Bool} (e : iw x a b = r) (w : World) : Calls Try.prog 52 #[.int .i64 x, .int .i64 a, .int .i64 b] w fun e w' => e = .returned (.bool r) ∧ w = w' := e ▸ isWithin x a b w

set_option maxHeartbeats 4000000 in
set_option maxRecDepth 100000 in
theorem trackI (A : Option Addr) (n0 c9 : Nat) (zs : List C) (s : ByteArray) (x : Int) (w : World) (hn : zs.length = n0) (hb : n0 ≤ 1048576) (wt : (Lit.int .i64 x).wf = true) (hr : Rd w w.heap.size A (dls zs)) :
    Calls Try.prog 15 #[.slice A n0 c9, .string s, .int .i64 x] w (RowI w (trV zs s x)) := by
  have hu : undef = Value.tuple #[] := rfl
  have CS := Lib.hid (scoreI A n0 c9 zs w hn hb hr)
  have CL := Lib.hid (fun (t : Int) (wt : (Lit.int .i64 t).wf = true) (W : World) (hW : Below w.heap.size w W) => levelI A n0 c9 zs s t W hn hb wt ((hr.below hW).more hW.size))
  cases hsc : score zs
  · rw [hsc] at CS
    have HV := Lib.hid (trV_no (zs := zs) (s := s) (x := x) (Or.inl hsc))
    rw [HV.out]
    clear hr hn hsc CL
    go_enter Try.func15, Try.ntmps15
    go_wp2_with fail
    refine CS.out.mono ?_
    rintro e w1 ⟨rfl, hb1⟩
    have B1 := Lib.hid hb1
    have RN := Lib.hid (row_nil w1)
    clear hb1
    go_wp2_with fail
    go_returns
    exact RowI.from RN.out B1.out
  rw [hsc] at CS
  by_cases hx : 0 ≤ x ∧ x ≤ 64
  case neg =>
    have C := Lib.hid (fun v => isWithin_of (x := x) (a := 0) (b := 64) (r := false) (iw_no (by omega)) v)
    have HV := Lib.hid (trV_no (zs := zs) (s := s) (x := x) (Or.inr (by omega)))
    rw [HV.out]
    clear hr hn hsc CL hx
    go_enter Try.func15, Try.ntmps15
    go_wp2_with fail
    refine CS.out.mono ?_
    rintro e w1 ⟨rfl, hb1⟩
    have B1 := Lib.hid hb1
    have RN := Lib.hid (row_nil w1)
    clear hb1
    go_wp2_with fail
    refine (C.out _).mono ?_
    rintro e w2 ⟨rfl, rfl⟩
    go_wp2_with fail
    go_returns
    exact RowI.from RN.out B1.out
  have C := Lib.hid (fun v => isWithin_of (x := x) (a := 0) (b := 64) (r := true) (iw_iff.2 hx) v)
  obtain ⟨p, rfl⟩ := Int.eq_ofNat_of_zero_le hx.1
  have hp : p ≤ 64 := by omega
  obtain ⟨i0, hi, hz0, hz1, hz2⟩ := info_of Ints.infoInt
  have HV := Lib.hid (trV_yes (s := s) hsc hp)
  rw [HV.out]
  have HL := Lib.hid (show (ints (trN zs s p)).length = p by rw [ints_len, trN_len])
  clear hr hn hsc hx HV wt
  go_enter Try.func15, Try.ntmps15
  go_wp2_with fail
  refine CS.out.mono ?_
  rintro e wa ⟨rfl, hba⟩
  have BA := Lib.hid hba
  have SA := Lib.hid hba.size
  clear hba CS
  go_wp2_with fail
  refine (C.out _).mono ?_
  rintro e w2 ⟨rfl, rfl⟩
  go_wp2_with (at_make; refine wpList_make_full _ rfl _ _ 27 rfl w.heap.size 3 i0 (.int .i64 0) 1 Try.underlying27 hi hz0 hz1 .i64 .i64 p p p rfl rfl rfl rfl (by rw [hz2]; omega) (by unfold maxLen; omega) SA.out ?_; intro w1 hown hgrow; clear hi hz0 hz1 hz2)
  have R0 := Lib.hid (show w1.ownsRow w.heap.size 3 1 (.slice (some ⟨wa.heap.size, 0, none⟩) p p) p (filled (ints (trN zs s p)) (.int .i64 0) 0) by
    rw [filled_zero, HL.out]; rw [Ints.made_ints] at hown; exact hown)
  have B0 := Lib.hid (show Below w.heap.size w w1 from BA.out.grown hgrow SA.out (fun k hk => by cases hk))
  clear hown hgrow
  go_loopw [22] (fun i wr => ∃ k : Nat, k ≤ p ∧ i = .int .i64 k ∧ Hid (wr.ownsRow w.heap.size 3 1 (.slice (some ⟨wa.heap.size, 0, none⟩) p p) p (filled (ints (trN zs s p)) (.int .i64 0) k)) ∧ Hid (Below w.heap.size w wr)) (fun i _ => p - (intOf i).toNat)
  case atStart => exact ⟨0, Nat.zero_le _, rfl, R0, B0⟩
  case round =>
    obtain ⟨k, hk, rfl, RK, BK⟩ := hrel
    clear R0 B0
    by_cases hlt : k < p
    · have hk9 : (Lit.int .i64 (k : Int)).wf = true := wf_small (by omega)
      have CZ := CL.out (k : Int) hk9
      obtain ⟨v, hv⟩ : ∃ v, levV zs s (k : Int) = v := ⟨_, rfl⟩
      have HG := Lib.hid (trN_get zs s hlt)
      rw [hv] at CZ HG
      have CZ := Lib.hid CZ
      clear hv hk9
      go_wp2_with fail
      refine (CZ.out _ BK.out).mono ?_
      rintro e w3 ⟨rfl, hb3⟩
      have R3 := Lib.hid (owns_below RK.out hb3)
      have B3 := Lib.hid (BK.out.trans (hb3.mono BK.out.size))
      clear hb3 RK BK CZ
      have c2 := (R3.out.cellAt k (by omega)).trans (filled_get (z := .int .i64 0) (List.getElem?_eq_some_iff.1 HG.out).1)
      have f2 := R3.out.frozenAt k
      obtain ⟨r1, r2⟩ := R3.out.stored k (.int .i64 v)
      rw [filled_put HG.out] at r1
      have R1 := Lib.hid r1
      have B1 := Lib.hid (B3.out.grown r2 (by exact B3.out.size) (fun g hg => by cases hg; exact SA.out))
      clear r1 r2 R3 B3
      go_wp2_with fail
      go_roundw
      case rel => exact ⟨k + 1, by omega, by go_num, R1, B1⟩
      case measure => simp [intOf]; omega
    · obtain rfl : k = p := by omega
      have OF := Lib.hid (show wr.ownsRow w.heap.size 3 1 (.slice (some ⟨wa.heap.size, 0, none⟩) k k) k (ints (trN zs s k)) by
        have := RK.out
        have h9 := filled_all (ints (trN zs s k)) (.int .i64 0)
        rw [HL.out] at h9
        rw [h9] at this; exact this)
      clear RK
      go_wp2_with fail
      go_returns
      refine ⟨wa.heap.size, k, ?_, ?_, BK.out⟩
      · rw [trN_len]; first | done | rfl
      · rw [trN_len]; exact OF.out

set_option maxHeartbeats 4000000 in
set_option maxRecDepth 100000 in
theorem trackS (A : Option Addr) (n0 c9 : Nat) (zs : List C) (s : ByteArray) (x : Int) (w : World) (hn : zs.length = n0) (hb : n0 ≤ 1048576) (wt : (Lit.int .i64 x).wf = true) (hsz : ∀ z ∈ zs, z.nm.size ≤ 1048576) (hr : Rd w w.heap.size A (dls zs)) :
    Calls Try.prog 22 #[.slice A n0 c9, .string s, .int .i64 x] w (RowI w (trV zs s x)) := by
  have hu : undef = Value.tuple #[] := rfl
  have CS := Lib.hid (fun (W : World) (hW : Below w.heap.size w W) => scoreS A n0 c9 zs W hn hb hsz ((hr.below hW).more hW.size))
  have CL := Lib.hid (fun (t : Int) (wt : (Lit.int .i64 t).wf = true) (W : World) (hW : Below w.heap.size w W) => levelS A n0 c9 zs s t W hn hb wt hsz ((hr.below hW).more hW.size))
  have O1 := Lib.hid (World.ownsRow_lit (base := w.heap.size) (e := 3) (size := 1) w #[] 0 (Nat.le_refl _) (Nat.zero_le _) rfl)
  have B1 := Lib.hid (show Below w.heap.size w (w.alloc (.cells #[] 3)) from (Below.refl _ _).alloc (Nat.le_refl _) _)
  have RN := Lib.hid (row_nil w)
  by_cases h : 0 < x
  case neg =>
    have HV := Lib.hid (trV_neg (zs := zs) (s := s) h)
    rw [HV.out]
    clear hr hn hsz CS CL wt
    go_enter Try.func22, Try.ntmps22
    go_wp2_with fail
    go_loopw [7, 8] (fun v i wr => i = .int .i64 0 ∧ v = .slice (some ⟨w.heap.size, 0, none⟩) 0 0 ∧ wr = w.alloc (.cells #[] 3)) (fun _ _ _ => 0)
    case atStart => exact ⟨rfl, rfl, by first | rfl | trivial⟩
    case round =>
      obtain ⟨rfl, rfl, rfl⟩ := hrel
      go_wp2_with fail
      go_returns
      exact RN.out
  by_cases h2 : x ≤ 64
  case neg =>
    have HV := Lib.hid (trV_no (zs := zs) (s := s) (x := x) (Or.inr (by omega)))
    rw [HV.out]
    clear hr hn hsz CS CL wt
    go_enter Try.func22, Try.ntmps22
    go_wp2_with fail
    go_loopw [7, 8] (fun v i wr => i = .int .i64 0 ∧ v = .slice (some ⟨w.heap.size, 0, none⟩) 0 0 ∧ wr = w.alloc (.cells #[] 3)) (fun _ _ _ => 0)
    case atStart => exact ⟨rfl, rfl, by first | rfl | trivial⟩
    case round =>
      obtain ⟨rfl, rfl, rfl⟩ := hrel
      go_wp2_with fail
      go_returns
      exact RN.out
  obtain ⟨p, rfl⟩ := Int.eq_ofNat_of_zero_le (by omega : 0 ≤ x)
  have hp : p ≤ 64 := by omega
  have hp0 : 0 < p := by omega
  cases hsc : score zs
  · rw [hsc] at CS
    have HV := Lib.hid (trV_no (zs := zs) (s := s) (x := (p : Int)) (Or.inl hsc))
    rw [HV.out]
    clear hr hn hsz CL wt
    go_enter Try.func22, Try.ntmps22
    go_wp2_with fail
    go_loopw [7, 8] (fun v i wr => i = .int .i64 0 ∧ v = .slice (some ⟨w.heap.size, 0, none⟩) 0 0 ∧ Hid (Below w.heap.size w wr) ∧ Hid (wr.ownsRow w.heap.size 3 1 v 0 [])) (fun _ _ _ => 0)
    case atStart => exact ⟨rfl, rfl, B1, O1⟩
    case round =>
      obtain ⟨rfl, rfl, BK, OK⟩ := hrel
      go_wp2_with fail
      refine (CS.out _ BK.out).mono ?_
      rintro e w3 ⟨rfl, hb3⟩
      have R3 := Lib.hid (owns_below OK.out hb3)
      have B3 := Lib.hid (BK.out.trans (hb3.mono BK.out.size))
      clear hb3 OK BK
      go_wp2_with fail
      go_returns
      exact ⟨_, _, rfl, R3.out, B3.out⟩
  rw [hsc] at CS
  obtain ⟨i0, hi, hz0, hz1, hz2⟩ := info_of Ints.infoInt
  have HV := Lib.hid (trV_yes (s := s) hsc hp)
  rw [HV.out]
  clear hr hn hsc hsz HV wt h h2 RN
  go_enter Try.func22, Try.ntmps22
  go_wp2_with fail
  go_loopw [7, 8] (fun v i wr => ∃ k : Nat, k ≤ p ∧ i = .int .i64 k ∧ (∃ b d, v = .slice (some ⟨b, 0, none⟩) k d) ∧ Hid (wr.ownsRow w.heap.size 3 1 v k (ints (trN zs s k))) ∧ Hid (Below w.heap.size w wr)) (fun _ i _ => p - (intOf i).toNat)
  case atStart => exact ⟨0, Nat.zero_le _, rfl, ⟨_, _, rfl⟩, O1, B1⟩
  case round =>
    obtain ⟨k, hk, rfl, ⟨bb, dd, rfl⟩, RK, BK⟩ := hrel
    clear O1 B1
    by_cases hlt : k < p
    · have hk9 : (Lit.int .i64 (k : Int)).wf = true := wf_small (by omega)
      have CZ := CL.out (k : Int) hk9
      obtain ⟨v, hv⟩ : ∃ v, levV zs s (k : Int) = v := ⟨_, rfl⟩
      have HP := Lib.hid (trN_snoc zs s k)
      rw [hv] at CZ HP
      have CZ := Lib.hid CZ
      clear hv hk9
      go_wp2_with fail
      refine (CS.out _ BK.out).mono ?_
      rintro e w2 ⟨rfl, hb2⟩
      have R2 := Lib.hid (owns_below RK.out hb2)
      have B2 := Lib.hid (BK.out.trans (hb2.mono BK.out.size))
      clear hb2 RK BK
      go_wp2_with fail
      refine (CZ.out _ B2.out).mono ?_
      rintro e w3 ⟨rfl, hb3⟩
      have R3 := Lib.hid (owns_below R2.out hb3)
      have B3 := Lib.hid (B2.out.trans (hb3.mono B2.out.size))
      have hown := R3.out.alloc
      clear hb3 R2 B2 CZ
      go_wp2_with (at_builtin; refine wpList_append_own _ rfl _ _ 27 rfl w.heap.size 3 i0 (.int .i64 0) 1 8 Try.underlying27 hi hz0 hz1 hz2 rfl (by decide) _ _ _ rfl (hown _) ⟨w3.heap.size, 0, none⟩ 1 1 [.int .i64 v] rfl rfl (by intro j u hj; match j, hj with | 0, hj => (simp at hj; subst hj; simp [Addr.add])) (by intro u hu9; simp at hu9; rcases hu9 with rfl; rfl) (by unfold maxLen; omega) (by omega) (by have := B3.out.size; simp; omega) ?_; intro v' w5 hown' hgrow hnil)
      rw [← HP.out] at hown'
      obtain ⟨g5, c5, rfl⟩ := own_mk hown'
      have R6 := Lib.hid hown'
      have B6 := Lib.hid ((B3.out.alloc B3.out.size _).grown hgrow (by have := B3.out.size; simp; omega) (fun j hj => own_base R3.out j hj))
      clear hown' hgrow hnil hown R3 B3
      go_wp2_with fail
      go_roundw
      case rel => first | exact ⟨k + 1, by omega, by go_num, ⟨_, _, rfl⟩, R6, B6⟩ | ((repeat apply Exists.intro); exact ⟨⟨k + 1, by omega, by go_num, ⟨_, _, rfl⟩, R6, B6⟩, rfl⟩)
      case measure => simp [intOf]; omega
    · obtain rfl : k = p := by omega
      go_wp2_with fail
      go_returns
      exact ⟨bb, dd, by rw [trN_len]; first | done | rfl, by rw [trN_len]; exact RK.out, BK.out⟩

end Go.Proofs.Ytdhdmdjahfnicaa.To8
