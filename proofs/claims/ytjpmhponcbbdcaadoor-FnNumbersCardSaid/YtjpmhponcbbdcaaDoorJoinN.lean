/- Texts that are joined: the model's loop and the library's Join give the same bytes. -/
import Derived.Test.YtjpmhponcbbdcaaDoorEqs
import Derived.Test.YtjpmhponcbbdcaaDoorShelf
import Derived.Laws.Concat
namespace Go.Proofs.YtjpmhponcbbdcaaDoor.Join
open Go.RowKit Go.Proofs.YtjpmhponcbbdcaaDoor.Mem Go.Proofs.YtjpmhponcbbdcaaDoor.Strs

def texts (ss : List ByteArray) : List (List UInt8) := ss.map (·.data.toList)
/-- The joined text. -/
def joined (ss : List ByteArray) (sep : ByteArray) : ByteArray := ⟨(Lib.join (texts ss) sep.data.toList).toArray⟩

theorem joined_nil (sep : ByteArray) : joined [] sep = ByteArray.empty := rfl
theorem joinTail_append (sep : List UInt8) (a b : List (List UInt8)) : Lib.joinTail sep (a ++ b) = Lib.joinTail sep a ++ Lib.joinTail sep b := by
  unfold Lib.joinTail; rw [List.map_append, List.flatten_append]
theorem join_snoc (sep x : List UInt8) : ∀ (l : List (List UInt8)), l ≠ [] → Lib.join (l ++ [x]) sep = Lib.join l sep ++ sep ++ x
  | [], h => absurd rfl h
  | y :: r, _ => by
    rw [List.cons_append, Lib.join_cons, Lib.join_cons, joinTail_append]
    simp [Lib.joinTail]
theorem data_append (a b : ByteArray) : (a ++ b).data.toList = a.data.toList ++ b.data.toList := by simp
theorem ext_data {a b : ByteArray} (h : a.data.toList = b.data.toList) : a = b := by
  cases a; cases b; congr 1; exact Array.ext' h
theorem joined_first {ss : List ByteArray} {s sep : ByteArray} (h : ss[0]? = some s) : ByteArray.empty ++ s = joined (ss.take 1) sep := by
  obtain ⟨hk, rfl⟩ := List.getElem?_eq_some_iff.1 h
  apply ext_data
  rw [List.take_succ_eq_append_getElem hk]
  simp [joined, texts, Lib.join_one]
theorem joined_next {ss : List ByteArray} {s sep : ByteArray} {k : Nat} (hk0 : 0 < k) (h : ss[k]? = some s) : joined (ss.take k) sep ++ sep ++ s = joined (ss.take (k + 1)) sep := by
  obtain ⟨hk, rfl⟩ := List.getElem?_eq_some_iff.1 h
  apply ext_data
  rw [data_append, data_append]
  unfold joined texts
  rw [List.take_succ_eq_append_getElem hk, List.map_append, List.map_cons, List.map_nil, join_snoc _ _ _ (by
    intro c
    have := congrArg List.length c
    simp at this
    rcases this with e | e
    · omega
    · subst e; simp at hk)]
theorem tail_len (sep : List UInt8) : ∀ (l : List ByteArray), (Lib.joinTail sep (texts l)).length = l.length * sep.length + byteSum l
  | [] => by simp [Lib.joinTail, texts, byteSum]
  | y :: r => by
    have := tail_len sep r
    unfold Lib.joinTail texts at *
    simp only [List.map_cons, List.flatten_cons, List.length_append, List.length_cons, byteSum, this, Nat.add_mul]
    have e : y.data.toList.length = y.size := (Lib.size_eq y).symm
    omega
theorem joined_size (ss : List ByteArray) (sep : ByteArray) : (joined ss sep).size ≤ ss.length * sep.size + byteSum ss := by
  have e0 : (joined ss sep).size = (Lib.join (texts ss) sep.data.toList).length := by rw [Lib.size_eq]; rfl
  rw [e0]
  cases ss with
  | nil => simp [texts, Lib.join_nil]
  | cons y r =>
    have := tail_len sep.data.toList r
    rw [show texts (y :: r) = y.data.toList :: texts r from rfl, Lib.join_cons, List.length_append, this]
    have e : y.data.toList.length = y.size := (Lib.size_eq y).symm
    have e2 : sep.data.toList.length = sep.size := (Lib.size_eq sep).symm
    rw [e, e2]
    simp only [List.length_cons, byteSum, Nat.add_mul]
    omega
theorem ret_str {a b : ByteArray} (h : a = b) : Ending.returned (.string a) = .returned (.string b) := by rw [h]

theorem small {ss : List ByteArray} {sep : ByteArray} (h1 : ss.length + byteSum ss ≤ 1048576) (h2 : sep.size ≤ 1048576) (k : Nat) : (joined (ss.take k) sep).size ≤ 1099512676352 := by
  have a := joined_size (ss.take k) sep
  have b := byteSum_take_le ss k
  have c : (ss.take k).length ≤ 1048576 := by rw [List.length_take]; omega
  have d := Nat.mul_le_mul c h2
  omega

def Joined (ss : List ByteArray) (sep : ByteArray) (w : World) (e : Ending) (w' : World) : Prop := e = .returned (.string (joined ss sep)) ∧ Below w.heap.size w w'

theorem impl (A : Option Addr) (n c : Nat) (ss : List ByteArray) (sep : ByteArray) (w : World) (hn : ss.length = n) (hc : n ≤ c) (hb : ss.length + byteSum ss ≤ 1048576) (hsep : sep.size ≤ 1048576) (hr : Rd w w.heap.size A (strs ss)) :
    Calls Tryd.prog 13 #[.slice A n c, .string sep] w (Joined ss sep w) := by
  have c1 : ∀ W, W = w → Calls Tryd.prog 28 #[.slice A n c, .string sep] W (Joined ss sep w) := by
    rintro W rfl
    subst hn
    rcases hr with h | ⟨b, o, rfl, hbl, hcell⟩
    · have : ss = [] := by cases ss with
        | nil => rfl
        | cons y r => simp [strs] at h
      subst this
      refine (Tryd.strings_Join_none A c sep W).mono fun e w' ⟨he, hw⟩ => ⟨?_, hw ▸ Below.refl _ _⟩
      rw [he]; rfl
    · refine (Tryd.strings_Join b o c ss sep W (fun j x hx => hcell j _ (strs_get hx)) hbl (by omega) hc ?_).mono fun e w' ⟨he, hw⟩ => ⟨?_, hw⟩
      · have := small hb hsep ss.length
        rw [List.take_length] at this
        have e0 : (joined ss sep).size = (Lib.join (texts ss) sep.data.toList).length := by rw [Lib.size_eq]; rfl
        rw [e0] at this
        exact Nat.le_trans this (by decide)
      · rw [he]; rfl
  have C1 := Lib.hid c1
  clear c1 hr
  go_enter Tryd.func13, Tryd.ntmps13
  go_wp2_with fail
  refine (C1.out _ rfl).mono ?_
  rintro e w1 ⟨rfl, b1⟩
  have B1 := Lib.hid b1
  clear b1
  go_wp2_with fail
  go_ret
  exact ⟨rfl, B1.out⟩

end Go.Proofs.YtjpmhponcbbdcaaDoor.Join
