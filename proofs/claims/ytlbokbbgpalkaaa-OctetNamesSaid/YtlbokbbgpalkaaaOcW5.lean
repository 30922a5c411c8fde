/- Reading, by walks. -/
import Derived.Test.YtlbokbbgpalkaaaOcW4
namespace Go.Proofs.Ytlbokbbgpalkaaa.ocW
open Go.RowKit Go.Proofs.Ytlbokbbgpalkaaa.base Go.Proofs.Ytlbokbbgpalkaaa.ocP
set_option linter.unusedVariables false
set_option linter.unusedSimpArgs false

/-- 'n<<8 | x' of a number that keeps its place. -/
theorem or_join8 (h l : Int) (h1 : 0 ≤ h) (h2 : h ≤ 72057594037927935) (l1 : 0 ≤ l) (l2 : l ≤ 255) : bits .or .u64 (h * 256) l = h * 256 + l := by
  obtain ⟨b, rfl⟩ := Int.eq_ofNat_of_zero_le l1
  obtain ⟨a, rfl⟩ := Int.eq_ofNat_of_zero_le h1
  have hb : b < 256 := by omega
  have e : (BitVec.ofInt 64 ((a : Int) * 256)).toNat = 2 ^ 8 * a := by
    have := toNat_ofInt 64 ((a : Int) * 256)
    have p : (2 : Int) ^ 64 = 18446744073709551616 := by decide
    rw [p] at this
    have q : (2 : Nat) ^ 8 = 256 := by decide
    rw [q]
    omega
  have e2 : (BitVec.ofInt 64 (b : Int)).toNat = b := by
    rw [BitVec.ofInt_natCast, BitVec.toNat_ofNat]
    exact Nat.mod_eq_of_lt (Nat.lt_of_lt_of_le hb (by decide))
  show IntKind.u64.wrap (((BitVec.ofInt 64 ((a : Int) * 256)) ||| (BitVec.ofInt 64 (b : Int))).toNat : Int) = _
  rw [BitVec.toNat_or, e, e2, ← Nat.two_pow_add_eq_or_of_lt (show b < 2 ^ 8 from hb) a, IntKind.wrap_u64]
  have q : (2 : Nat) ^ 8 = 256 := by decide
  rw [q]
  omega
set_option maxHeartbeats 1000000 in
theorem peek_one (x v : Int) (G : Nat) (w : World) (K : Lies w G 26 [.int .u64 v]) (h1 : 0 ≤ x) (h2 : x ≤ 255) (h3 : 0 ≤ v) (h4 : v ≤ 72057594037927935) :
    Calls Try.prog 39 #[.int .u8 x, .pointer (some ⟨G, 0, none⟩)] w fun e w' => e = .returned (.tuple #[]) ∧ w' = w.setCell ⟨G, 0, none⟩ (.int .u64 (v * 256 + x)) := by
  obtain ⟨p0, f0⟩ := K.one
  have lt := K.lt
  have HV := Lib.hid (or_join8 v x h3 h4 h1 h2)
  go_enter Try.func39, Try.ntmps39
  go_wp2_with fail
  go_end0
  exact ⟨rfl, by rw [HV.out]⟩
/-- The number of some bytes. -/
def valB (bs : List Int) : Int := bs.foldl (fun n d => n * 256 + d) 0
theorem valB_snoc (bs : List Int) (x : Int) : valB (bs ++ [x]) = valB bs * 256 + x := by simp [valB]
theorem valB_take {bs : List Int} {k : Nat} (h : k < bs.length) : valB (bs.take (k + 1)) = valB (bs.take k) * 256 + bs.getD k 0 := by
  rw [List.take_succ_eq_append_getElem h, valB_snoc, List.getD_eq_getElem?_getD, List.getElem?_eq_getElem h]
  rfl
theorem valB_bd {bs : List Int} (hb : ∀ z ∈ bs, 0 ≤ z ∧ z ≤ 255) : ∀ k, k ≤ bs.length → 0 ≤ valB (bs.take k) ∧ valB (bs.take k) < 256 ^ k
  | 0, _ => by simp [valB]
  | k + 1, h => by
    have ih := valB_bd hb k (by omega)
    rw [valB_take (by omega)]
    have hx := hb (bs.getD k 0) (by rw [List.getD_eq_getElem?_getD, List.getElem?_eq_getElem (by omega)]; exact List.getElem_mem _)
    rw [Int.pow_succ]
    omega
theorem pow_7 {k : Nat} (h : k ≤ 7) : (256 : Int) ^ k ≤ 72057594037927936 := by
  rcases (show k = 0 ∨ k = 1 ∨ k = 2 ∨ k = 3 ∨ k = 4 ∨ k = 5 ∨ k = 6 ∨ k = 7 by omega) with rfl | rfl | rfl | rfl | rfl | rfl | rfl | rfl <;> decide
theorem pow_8 {k : Nat} (h : k ≤ 8) : (256 : Int) ^ k ≤ 18446744073709551616 := by
  rcases (show k = 0 ∨ k = 1 ∨ k = 2 ∨ k = 3 ∨ k = 4 ∨ k = 5 ∨ k = 6 ∨ k = 7 ∨ k = 8 by omega) with rfl | rfl | rfl | rfl | rfl | rfl | rfl | rfl | rfl <;> decide
theorem valB_7 {bs : List Int} (hb : ∀ z ∈ bs, 0 ≤ z ∧ z ≤ 255) {k : Nat} (hk : k ≤ bs.length) (h7 : k ≤ 7) : 0 ≤ valB (bs.take k) ∧ valB (bs.take k) ≤ 72057594037927935 := by
  have h := valB_bd hb k hk
  have := pow_7 h7
  omega
theorem valB_8 {bs : List Int} (hb : ∀ z ∈ bs, 0 ≤ z ∧ z ≤ 255) {k : Nat} (hk : k ≤ bs.length) (h7 : k ≤ 8) : 0 ≤ valB (bs.take k) ∧ valB (bs.take k) ≤ 18446744073709551615 := by
  have h := valB_bd hb k hk
  have := pow_8 h7
  omega
def rdV (c : Cu) (l : Int) : Int := valB ((c.b.drop c.a.toNat).take l.toNat)
def pkE (c : Cu) (l m : Int) : Int := if l ≤ c.b.length - c.a then (if rdV c l ≤ m then 0 else 16) else 18
def pkV (c : Cu) (l m : Int) : Int := if pkE c l m = 0 then rdV c l else 0
set_option maxHeartbeats 4000000 in
theorem peek_s (c : Cu) (A : Option Addr) (n d : Nat) (l m : Int) (w : World) (h1 : 0 ≤ c.a) (h2 : c.a ≤ n) (h3 : ¬ l ≤ n - c.a) (h4 : l ≤ 8) (h5 : n ≤ 50000) :
    Calls Try.prog 33 #[.agg #[.slice A n d, .int .i64 (c).a], .int .i64 l, .int .u64 m] w fun e w' => e = .returned (.tuple #[.int .u64 0, .int .i64 18]) ∧ Below w.heap.size w w' := by
  have n9 : (n : Int) ≤ 50000 := by omega
  clear h5
  generalize hca : c.a = a at *
  clear hca
  have k3 : (n : Int) - a < l := by omega
  go_enter Try.func33, Try.ntmps33
  go_wp2_with (first | (go_at_call 35; refine (left_ok ⟨c.b, a⟩ A n d _ (by simp; omega) (by simp; omega) (by omega)).mono ?_; rintro e w2 ⟨rfl, hb2⟩; have K1 : Lies w2 w.heap.size 29 [.slice A n d, .int .i64 a] := (by (repeat' (first | (with_reducible assumption) | (with_reducible exact Lies.fresh _ _ _) | (with_reducible apply Lies.fresh_at; (first | (with_reducible rfl) | (simp; done))) | (with_reducible refine Lies.drew ?_) | (with_reducible refine Lies.drewN ?_ _) | (with_reducible refine Lies.alloc ?_ _) | (with_reducible apply Lies.past; case hb => (with_reducible assumption)) | (with_reducible apply Lies.keeps; (case k => (with_reducible assumption)); (case ht => decide)) | (with_reducible apply Lies.store3) | (with_reducible apply Lies.other; case hp => (first | omega | (simp; done) | (simp; omega)))))); obtain ⟨p0, p1, -, -⟩ := K1.two; have lt := K1.lt; have HK1 := Lib.hid K1; have HB2 := Lib.hid hb2))
  refine bodyPost_ret (by simp [results, Try.results33, go_sem, ]; try rfl) rfl ?_
  exact ⟨rfl, by (repeat' (first | (with_reducible exact Below.refl _ _) | (with_reducible assumption) | (with_reducible refine below_drewN ?_ _) | (with_reducible refine below_new ?_ _) | (with_reducible refine Below.alloc ?_ ?_ _) | (with_reducible refine Below.drew ?_) | (with_reducible refine Below.setCell ?_ ?_ _) | (with_reducible apply below_at; (case k => (with_reducible assumption)); (case hB => omega)) | (with_reducible apply below_on; (with_reducible assumption)) | (go_size; done) | (with_reducible apply size_of)))⟩
set_option maxHeartbeats 4000000 in
theorem peek_ok (c : Cu) (A : Option Addr) (n d : Nat) (l m : Int) (w : World) (h : CuIn w A n d c) (h1 : 0 ≤ c.a) (h2 : c.a + l ≤ n) (h3 : 1 ≤ l) (h4 : l ≤ 8) (h5 : n ≤ 50000) (h6 : 0 ≤ m) (h7 : m ≤ 18446744073709551615) :
    Calls Try.prog 33 #[.agg #[.slice A n d, .int .i64 (c).a], .int .i64 l, .int .u64 m] w fun e w' => e = .returned (.tuple #[.int .u64 (if rdV c l ≤ m then rdV c l else 0), .int .i64 (if rdV c l ≤ m then 0 else 16)]) ∧ Below w.heap.size w w' := by
  have n9 : (n : Int) ≤ 50000 := by omega
  obtain ⟨q, rfl⟩ := Int.eq_ofNat_of_zero_le (show 0 ≤ l by omega)
  have H := Lib.hid h
  have hc := h.c1
  have hc9 : (n : Int) ≤ d := by omega
  obtain ⟨b, off, hA, hb, hcl⟩ := has_some h.h (by rw [h.e]; omega)
  obtain ⟨bs, hbs⟩ : ∃ bs, bs = c.b.drop c.a.toNat := ⟨_, rfl⟩
  have hlen : bs.length = n - c.a.toNat := by rw [hbs, List.length_drop, h.e]
  have hby : ∀ z ∈ bs, 0 ≤ z ∧ z ≤ 255 := fun z hz => h.b z (by rw [hbs] at hz; exact List.mem_of_mem_drop hz)
  have hcs : ∀ k, k < bs.length → w.cell? ⟨b, off + c.a.toNat + k, none⟩ = some (.int .u8 (bs.getD k 0)) := fun k hk => by
    have := hcl (c.a.toNat + k) (by rw [h.e]; omega)
    rw [show off + c.a.toNat + k = off + (c.a.toNat + k) by omega, this, hbs]
    simp [List.getD_eq_getElem?_getD, List.getElem?_drop]
  have HCS := Lib.hid hcs
  have HBY := Lib.hid hby
  have hrd : rdV c q = valB (bs.take q) := by rw [rdV, hbs, Int.toNat_natCast]
  obtain ⟨v, hv0⟩ : ∃ v, valB (bs.take q) = v := ⟨_, rfl⟩
  rw [hrd, hv0]
  have HRV := Lib.hid hv0
  have HLN : Hid (q ≤ bs.length) := Lib.hid (by rw [hlen]; omega)
  clear h h5 hc hcl hcs hby hrd hlen hbs hv0
  subst hA
  generalize hca : c.a = a at *
  clear hca
  have HN : Hid ((a + (q : Int)).toNat - a.toNat = q) := Lib.hid (by omega)
  go_enter Try.func33, Try.ntmps33
  go_wp2_with (first | (go_at_call 35; refine (left_ok ⟨c.b, a⟩ (some ⟨b, off, none⟩) n d _ (by simp; omega) (by simp; omega) (by omega)).mono ?_; rintro e w2 ⟨rfl, hb2⟩; have K1 : Lies w2 w.heap.size 29 [.slice (some ⟨b, off, none⟩) n d, .int .i64 a] := (by (repeat' (first | (with_reducible assumption) | (with_reducible exact Lies.fresh _ _ _) | (with_reducible apply Lies.fresh_at; (first | (with_reducible rfl) | (simp; done))) | (with_reducible refine Lies.drew ?_) | (with_reducible refine Lies.drewN ?_ _) | (with_reducible refine Lies.alloc ?_ _) | (with_reducible apply Lies.past; case hb => (with_reducible assumption)) | (with_reducible apply Lies.keeps; (case k => (with_reducible assumption)); (case ht => decide)) | (with_reducible apply Lies.store3) | (with_reducible apply Lies.other; case hp => (first | omega | (simp; done) | (simp; omega)))))); obtain ⟨p0, p1, -, -⟩ := K1.two; have lt := K1.lt; have HK1 := Lib.hid K1; have HB2 := Lib.hid hb2))
  rw [HN.out]
  have hlb : w.heap.size < w2.heap.size := HK1.out.lt
  go_loopw [27] (fun i wr => ∃ k : Nat, k ≤ q ∧ i = .int .i64 (k : Int) ∧ Lies wr w2.heap.size 26 [.int .u64 (valB (bs.take k))] ∧ Below w2.heap.size w2 wr) (fun i _ => q - (intOf i).toNat)
  case atStart => exact ⟨0, Nat.zero_le _, rfl, Lies.fresh w2 26 [.int .u64 0], by (repeat' (first | (with_reducible exact Below.refl _ _) | (with_reducible assumption) | (with_reducible refine below_drewN ?_ _) | (with_reducible refine below_new ?_ _) | (with_reducible refine Below.alloc ?_ ?_ _) | (with_reducible refine Below.drew ?_) | (with_reducible refine Below.setCell ?_ ?_ _) | (with_reducible apply below_at; (case k => (with_reducible assumption)); (case hB => omega)) | (with_reducible apply below_on; (with_reducible assumption)) | (go_size; done) | (with_reducible apply size_of)))⟩
  case round =>
    obtain ⟨k, hk, rfl, K, acc⟩ := hrel
    have HK := Lib.hid K
    have HACC := Lib.hid acc
    by_cases hlt : k < q
    · have hcell : wr.cell? ⟨b, off + a.toNat + k, none⟩ = some (.int .u8 (bs.getD k 0)) := by
        have e := HCS.out k (by have := HLN.out; omega)
        have hw : Below w.heap.size w wr := by have := HB2.out; (repeat' (first | (with_reducible exact Below.refl _ _) | (with_reducible assumption) | (with_reducible refine below_drewN ?_ _) | (with_reducible refine below_new ?_ _) | (with_reducible refine Below.alloc ?_ ?_ _) | (with_reducible refine Below.drew ?_) | (with_reducible refine Below.setCell ?_ ?_ _) | (with_reducible apply below_at; (case k => (with_reducible assumption)); (case hB => omega)) | (with_reducible apply below_on; (with_reducible assumption)) | (go_size; done) | (with_reducible apply size_of)))
        rw [(bcell hw).1 b _ hb]
        exact e
      have k1 : (k : Int) < (q : Int) := by omega
      have HX : Hid (0 ≤ bs.getD k 0 ∧ bs.getD k 0 ≤ 255) := Lib.hid (by
        have := HLN.out
        exact HBY.out _ (by rw [List.getD_eq_getElem?_getD, List.getElem?_eq_getElem (by omega)]; exact List.getElem_mem _))
      have HV : Hid (0 ≤ valB (bs.take k) ∧ valB (bs.take k) ≤ 72057594037927935) := Lib.hid (valB_7 HBY.out (by have := HLN.out; omega) (by omega))
      have HNX : Hid (valB (bs.take (k + 1)) = valB (bs.take k) * 256 + bs.getD k 0) := Lib.hid (valB_take (by have := HLN.out; omega))
      have HLT := Lib.hid hlt
      clear hk hlt acc
      go_wp2_with (first | (go_at_call 39; refine (peek_one _ _ _ _ HK.out HX.out.1 HX.out.2 HV.out.1 HV.out.2).mono ?_; rintro e w3 ⟨rfl, rfl⟩))
      refine ⟨⟨k + 1, HLT.out, by go_num, ?_, ?_⟩, ?_⟩
      · rw [HNX.out]; exact HK.out.set 0 _
      · have := HACC.out; (repeat' (first | (with_reducible exact Below.refl _ _) | (with_reducible assumption) | (with_reducible refine below_drewN ?_ _) | (with_reducible refine below_new ?_ _) | (with_reducible refine Below.alloc ?_ ?_ _) | (with_reducible refine Below.drew ?_) | (with_reducible refine Below.setCell ?_ ?_ _) | (with_reducible apply below_at; (case k => (with_reducible assumption)); (case hB => omega)) | (with_reducible apply below_on; (with_reducible assumption)) | (go_size; done) | (with_reducible apply size_of)))
      · simp [intOf]; have := HLT.out; omega
    · have hkl : q = k := by omega
      subst hkl
      obtain ⟨q0, -⟩ := K.one
      rw [HRV.out] at q0
      have HV : Hid (0 ≤ v ∧ v ≤ 18446744073709551615) := Lib.hid (by rw [← HRV.out]; exact valB_8 HBY.out HLN.out (by omega))
      clear hlt hk acc K
      have v1 := HV.out.1
      have v2 := HV.out.2
      by_cases hv : v ≤ m
      · go_wp2_with fail
        refine bodyPost_ret (by simp [results, Try.results33, go_sem, ]; try rfl) rfl ?_
        exact ⟨by first | rfl | simp [hv], by have := HACC.out; have := HB2.out; (repeat' (first | (with_reducible exact Below.refl _ _) | (with_reducible assumption) | (with_reducible refine below_drewN ?_ _) | (with_reducible refine below_new ?_ _) | (with_reducible refine Below.alloc ?_ ?_ _) | (with_reducible refine Below.drew ?_) | (with_reducible refine Below.setCell ?_ ?_ _) | (with_reducible apply below_at; (case k => (with_reducible assumption)); (case hB => omega)) | (with_reducible apply below_on; (with_reducible assumption)) | (go_size; done) | (with_reducible apply size_of)))⟩
      · have hv2 : m < v := by omega
        go_wp2_with fail
        refine bodyPost_ret (by simp [results, Try.results33, go_sem, ]; try rfl) rfl ?_
        exact ⟨by first | rfl | simp [hv], by have := HACC.out; have := HB2.out; (repeat' (first | (with_reducible exact Below.refl _ _) | (with_reducible assumption) | (with_reducible refine below_drewN ?_ _) | (with_reducible refine below_new ?_ _) | (with_reducible refine Below.alloc ?_ ?_ _) | (with_reducible refine Below.drew ?_) | (with_reducible refine Below.setCell ?_ ?_ _) | (with_reducible apply below_at; (case k => (with_reducible assumption)); (case hB => omega)) | (with_reducible apply below_on; (with_reducible assumption)) | (go_size; done) | (with_reducible apply size_of)))⟩
end Go.Proofs.Ytlbokbbgpalkaaa.ocW
