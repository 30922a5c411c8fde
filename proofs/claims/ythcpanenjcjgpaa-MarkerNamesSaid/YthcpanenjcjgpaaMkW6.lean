/- Markers: stands, At, Find of the program, by walks. -/
import Derived.Lib.Bytes
import Derived.Test.YthcpanenjcjgpaaMkW5
namespace Go.Proofs.Ythcpanenjcjgpaa.mkW
open Go.RowKit Go.Proofs.Ythcpanenjcjgpaa.base Go.Proofs.Ythcpanenjcjgpaa.mkP
set_option linter.unusedVariables false
set_option linter.unusedSimpArgs false
theorem bstr_go (zs : List Int) : ∀ a : ByteArray, (zs.foldl (fun r n => r.push (UInt8.ofNat n.toNat)) a).data.toList = a.data.toList ++ Lib.bytesOf zs := by
  induction zs with
  | nil => intro a; simp [Lib.bytesOf]
  | cons z zs ih =>
    intro a
    rw [List.foldl_cons, ih]
    simp [Lib.bytesOf, ByteArray.push]
theorem bstr_list (zs : List Int) : (bstr zs).data.toList = Lib.bytesOf zs := by
  have := bstr_go zs .empty
  simpa [bstr] using this
theorem bstr_inj {xs ys : List Int} (hx : ∀ z ∈ xs, 0 ≤ z ∧ z ≤ 255) (hy : ∀ z ∈ ys, 0 ≤ z ∧ z ≤ 255) (h : bstr xs = bstr ys) : xs = ys :=
  bytes_inj hx hy (by rw [← bstr_list, ← bstr_list, h])
theorem bstr_mk : bstr mk = ⟨#[183, 98, 105, 116, 108, 111, 102, 116, 32, 98, 108, 107, 10]⟩ := by decide +kernel
theorem bstr_toList (zs : List Int) : (bstr zs).toList = Lib.bytesOf zs := by rw [ByteArray.toList_eq, bstr_list]
theorem bstr_ne {xs ys : List Int} (hx : ∀ z ∈ xs, 0 ≤ z ∧ z ≤ 255) (hy : ∀ z ∈ ys, 0 ≤ z ∧ z ≤ 255) (h : xs ≠ ys) : ((bstr xs).toList == (bstr ys).toList) = false := by
  rw [bstr_toList, bstr_toList]
  rw [beq_eq_false_iff_ne]
  exact fun e => h (bytes_inj hx hy e)
theorem mk_U : (bstr mk).toList = [183, 98, 105, 116, 108, 111, 102, 116, 32, 98, 108, 107, 10] := by rw [bstr_toList]; rfl
/-- A window of a slice that came in, whole cells. -/
theorem win_has {w : World} {b : List Int} {A : Option Addr} {n c : Nat} (h : InR w ⟨A, n, c, b⟩) {q k : Nat} (hk : 0 < k) (hq : q + k ≤ n) :
    ∃ bb off, A = some ⟨bb, off, none⟩ ∧ Has .u8 w (some ⟨bb, off + q, none⟩) ((b.drop q).take k) ∧ ((b.drop q).take k).length = k := by
  have e : b.length = n := h.e
  obtain ⟨bb, off, hA, hlt, hc⟩ := has_some h.h (by show 0 < b.length; omega)
  have hA : A = some ⟨bb, off, none⟩ := hA
  refine ⟨bb, off, hA, ?_, by rw [List.length_take, List.length_drop]; omega⟩
  have h1 : Has .u8 w (some ⟨bb, off, none⟩) b := by rw [← hA]; exact h.h
  exact (h1.dropAt q).front k
set_option maxHeartbeats 1000000 in
theorem stands_any (b : List Int) (A : Option Addr) (n c q : Nat) (w : World) (h : InR w ⟨A, n, c, b⟩) (hq : q ≤ n) :
    Calls Try.prog 24 #[.slice A n c, .int .i64 (q : Int)] w fun e w' => e = .returned (.bool (occ b q)) ∧ w = w' := by
  have e : b.length = n := h.e
  have n9 : (n : Int) ≤ 9223372036854775807 := by have h1 : n ≤ c := h.c1; have h2 : c ≤ 9223372036854775807 := h.c2; omega
  have c9 : (c : Int) ≤ 9223372036854775807 := by have h2 : c ≤ 9223372036854775807 := h.c2; omega
  have cn : n ≤ c := h.c1
  by_cases c13 : q + 13 ≤ n
  · obtain ⟨bb, off, rfl, hw, hl⟩ := win_has h (q := q) (k := 13) (by omega) c13
    have hbd : ∀ z ∈ (b.drop q).take 13, 0 ≤ z ∧ z ≤ 255 := fun z hz => h.b z (List.mem_of_mem_drop (List.mem_of_mem_take hz))
    have cv := conv8 (c := c - q) hw hl
    have k1 : (13 : Int) ≤ (n : Int) - q := by omega
    have k2 : ¬ c = q := by omega
    have k3 : (q : Int) + 13 ≤ c := by omega
    have k4 : (q : Int) + 13 ≤ 9223372036854775807 := by omega
    have k5 : (q : Int) ≤ c := by omega
    by_cases ho : occ b q = true
    · have hz : (b.drop q).take 13 = mk := of_decide_eq_true ho
      rw [hz, bstr_mk] at cv
      have HT := Lib.hid ho
      clear h hq e hw hl hbd ho hz c13
      go_enter Try.func24, Try.ntmps24
      go_wp2_with fail
      go_ret
      exact ⟨by rw [HT.out]; rfl, rfl⟩
    · rw [Bool.not_eq_true] at ho
      have hne := bstr_ne hbd mk_bd (of_decide_eq_false ho)
      rw [mk_U] at hne
      have HT := Lib.hid ho
      generalize bstr ((b.drop q).take 13) = s at *
      clear h hq e hw hl hbd ho c13
      go_enter Try.func24, Try.ntmps24
      go_wp2_with fail
      go_ret
      exact ⟨by rw [HT.out]; rfl, rfl⟩
  · have HT := Lib.hid (occ_end (b := b) (i := q) (by omega))
    have k1 : (n : Int) - q < 13 := by omega
    have k0 : (q : Int) ≤ n := by omega
    have d1 : decide ((13 : Int) ≤ (n : Int) - q) = false := decide_eq_false (by omega)
    clear h hq e c13
    go_enter Try.func24, Try.ntmps24
    go_wp2_with fail
    go_ret
    exact ⟨by rw [HT.out]; rfl, rfl⟩
set_option maxHeartbeats 1000000 in
theorem At_any (b : List Int) (A : Option Addr) (n c : Nat) (i : Int) (w : World) (h : InR w ⟨A, n, c, b⟩) (l1 : -9223372036854775808 ≤ i) (l2 : i ≤ 9223372036854775807) :
    Calls Try.prog 9 #[.slice A n c, .int .i64 i] w fun e w' => e = .returned (.tuple #[.bool (atV b i), .int .i64 (asE b i)]) ∧ w = w' := by
  have e : b.length = n := h.e
  have n9 : (n : Int) ≤ 9223372036854775807 := by have h1 : n ≤ c := h.c1; have h2 : c ≤ 9223372036854775807 := h.c2; omega
  have HH := Lib.hid h
  by_cases c1 : (n : Int) ≤ 50000
  · by_cases c2 : 0 ≤ i
    · by_cases c3 : i ≤ n
      · obtain ⟨q, rfl⟩ := Int.eq_ofNat_of_zero_le c2
        have e0 : asE b q = 0 := by rw [asE, if_pos (by omega), if_pos (by omega)]
        have HV : Hid (asE b q = 0 ∧ atV b q = occ b q) := Lib.hid ⟨e0, by rw [atV, e0, occI, Int.toNat_natCast, decide_eq_true (by omega)]; rfl⟩
        have HQ : Hid (q ≤ n) := Lib.hid (by omega)
        clear h e e0
        go_enter Try.func9, Try.ntmps9
        go_wp2_with (go_at_call 24; refine (stands_any b A n c q _ HH.out HQ.out).mono ?_; rintro e w' ⟨rfl, rfl⟩)
        go_ret2
        exact ⟨by rw [HV.out.1, HV.out.2]; rfl, rfl⟩
      · have HV : Hid (asE b i = 2 ∧ atV b i = false) := Lib.hid (by
          have e0 : asE b i = 2 := by rw [asE, if_pos (by omega), if_neg (by omega)]
          exact ⟨e0, by rw [atV, e0]; rfl⟩)
        clear h e
        go_enter Try.func9, Try.ntmps9
        go_wp2_with fail
        go_ret2
        exact ⟨by rw [HV.out.1, HV.out.2]; rfl, rfl⟩
    · have HV : Hid (asE b i = 2 ∧ atV b i = false) := Lib.hid (by
        have e0 : asE b i = 2 := by rw [asE, if_pos (by omega), if_neg (by omega)]
        exact ⟨e0, by rw [atV, e0]; rfl⟩)
      clear h e
      go_enter Try.func9, Try.ntmps9
      go_wp2_with fail
      go_ret2
      exact ⟨by rw [HV.out.1, HV.out.2]; rfl, rfl⟩
  · have HV : Hid (asE b i = 4 ∧ atV b i = false) := Lib.hid (by
      have e0 : asE b i = 4 := by rw [asE, if_neg (by omega)]
      exact ⟨e0, by rw [atV, e0]; rfl⟩)
    clear h e
    go_enter Try.func9, Try.ntmps9
    go_wp2_with fail
    go_ret2
    exact ⟨by rw [HV.out.1, HV.out.2]; rfl, rfl⟩
set_option maxHeartbeats 1000000 in
theorem Find_any (b : List Int) (A : Option Addr) (n c : Nat) (i : Int) (w : World) (hT : Tab w) (h : Ib w A n c b) (l1 : -9223372036854775808 ≤ i) (l2 : i ≤ 9223372036854775807) :
    Calls Try.prog 11 #[.slice A n c, .int .i64 i] w fun e w' => e = .returned (.tuple #[.int .i64 (fiV b i), .int .i64 (fiE b i)]) ∧ Below w.heap.size w w' := by
  have e : b.length = n := h.e
  have n9 : (n : Int) ≤ 9223372036854775807 := by have h1 : n ≤ c := h.h.c1; have h2 : c ≤ 9223372036854775807 := h.h.c2; omega
  have HH := Lib.hid h
  have HTT := Lib.hid hT
  by_cases c1 : (n : Int) ≤ 50000
  · by_cases c2 : 0 ≤ i
    · by_cases c3 : i ≤ n
      · obtain ⟨q, rfl⟩ := Int.eq_ofNat_of_zero_le c2
        have e0 : asE b q = 0 := by rw [asE, if_pos (by omega), if_pos (by omega)]
        have HV : Hid ((nx b q < n → fiV b q = nx b q ∧ fiE b q = 0) ∧ (¬ nx b q < n → fiV b q = 0 ∧ fiE b q = 6)) := Lib.hid ⟨fun hh => by rw [fiV, fiE, if_pos e0, if_pos e0, Int.toNat_natCast, if_pos (by omega), if_pos (by omega)]; exact ⟨rfl, rfl⟩, fun hh => by rw [fiV, fiE, if_pos e0, if_pos e0, Int.toNat_natCast, if_neg (by omega), if_neg (by omega)]; exact ⟨rfl, rfl⟩⟩
        have HQ : Hid (q ≤ n ∧ n ≤ 50000) := Lib.hid (by omega)
        have hle := (nx_le b q (by omega)).2
        by_cases c4 : nx b q < n
        · have HR := Lib.hid (HV.out.1 c4)
          have k1 : ((nx b q : Int) == (n : Int)) = false := by
            have : ¬ (nx b q : Int) = n := by omega
            simpa using this
          clear h e e0 hT hle c4
          go_enter Try.func11, Try.ntmps11
          go_wp2_with (go_at_call 27; refine (next_any b A n c q _ HTT.out HH.out HQ.out.1 HQ.out.2).mono ?_; rintro e w1 ⟨rfl, hb1⟩)
          go_ret2
          exact ⟨by rw [HR.out.1, HR.out.2]; rfl, hb1⟩
        · have HR := Lib.hid (HV.out.2 c4)
          have HN : Hid (nx b q = n) := Lib.hid (by omega)
          clear h e e0 hT hle c4
          go_enter Try.func11, Try.ntmps11
          go_wp2_with (go_at_call 27; refine (next_any b A n c q _ HTT.out HH.out HQ.out.1 HQ.out.2).mono ?_; rintro e w1 ⟨rfl, hb1⟩; rw [HN.out])
          go_ret2
          exact ⟨by rw [HR.out.1, HR.out.2]; rfl, hb1⟩
      · have HV : Hid (fiE b i = 2 ∧ fiV b i = 0) := Lib.hid (by
          have e0 : asE b i = 2 := by rw [asE, if_pos (by omega), if_neg (by omega)]
          exact ⟨by rw [fiE, e0]; rfl, by rw [fiV, e0]; rfl⟩)
        clear h e hT
        go_enter Try.func11, Try.ntmps11
        go_wp2_with fail
        go_ret2
        exact ⟨by rw [HV.out.1, HV.out.2]; rfl, Below.refl _ _⟩
    · have HV : Hid (fiE b i = 2 ∧ fiV b i = 0) := Lib.hid (by
        have e0 : asE b i = 2 := by rw [asE, if_pos (by omega), if_neg (by omega)]
        exact ⟨by rw [fiE, e0]; rfl, by rw [fiV, e0]; rfl⟩)
      clear h e hT
      go_enter Try.func11, Try.ntmps11
      go_wp2_with fail
      go_ret2
      exact ⟨by rw [HV.out.1, HV.out.2]; rfl, Below.refl _ _⟩
  · have HV : Hid (fiE b i = 4 ∧ fiV b i = 0) := Lib.hid (by
      have e0 : asE b i = 4 := by rw [asE, if_neg (by omega)]
      exact ⟨by rw [fiE, e0]; rfl, by rw [fiV, e0]; rfl⟩)
    clear h e hT
    go_enter Try.func11, Try.ntmps11
    go_wp2_with fail
    go_ret2
    exact ⟨by rw [HV.out.1, HV.out.2]; rfl, Below.refl _ _⟩
end Go.Proofs.Ythcpanenjcjgpaa.mkW
