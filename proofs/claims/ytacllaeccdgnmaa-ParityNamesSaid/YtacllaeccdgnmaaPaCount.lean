/- bytes.Count of one byte, by a walk: how often it is there. -/
import Derived.Test.YtacllaeccdgnmaaOwnZ
import Derived.Lib.BytesEntry
import Derived.Laws.Externs
import Derived.Lib.Walk
namespace Go.Proofs.Ytacllaeccdgnmaa.paW
set_option maxRecDepth 100000
open Go.RowKit Go.Proofs.Ytacllaeccdgnmaa.base
set_option linter.unusedVariables false
set_option linter.unusedSimpArgs false

/-- THE ENTRY internal/bytealg.Count at a slice whose cells are known. -/
theorem run_countSlice {P : Program} (w : World) (b off n c : Nat) (xs : List Int) (hx : xs.length = n) (hc : ∀ i, i < n → w.cell? ⟨b, off + i, none⟩ = some (.int .u8 (xs.getD i 0))) (cv : Int) :
    (Extern.BytealgCount.count #[.slice (some ⟨b, off, none⟩) n c, .int .u8 cv]).run P w = .ok (.int .i64 (Lib.countByte (Lib.bytesOf xs) cv.toNat.toUInt8 : Nat)) w := by
  have hl := Lib.run_loadBytesX (P := P) w xs ⟨b, off, none⟩ .empty (fun j x hj => by
    have hjl : j < xs.length := (List.getElem?_eq_some_iff.1 hj).1
    have e : (⟨b, off, none⟩ : Addr).add j = ⟨b, off + j, none⟩ := by unfold Addr.add; split <;> simp_all
    rw [e, hc j (by omega), List.getD_eq_getElem?_getD, hj]
    rfl)
  rw [hx] at hl
  have hs := Lib.run_countString (P := P) ⟨(Lib.bytesOf xs).toArray⟩ cv w
  have he : (⟨ByteArray.empty.data ++ (Lib.bytesOf xs).toArray⟩ : ByteArray) = ⟨(Lib.bytesOf xs).toArray⟩ := by
    apply ByteArray.ext
    show (#[] : Array UInt8) ++ (Lib.bytesOf xs).toArray = (Lib.bytesOf xs).toArray
    simp
  rw [he] at hl
  change Sem.run P (do
    let b ← Extern.Bytes.bytesOf (.slice (some ⟨b, off, none⟩) n c)
    let c' ← Extern.Bytes.asByte (.int .u8 cv)
    pure (goInt (b.foldl (fun n x => if x == c' then n + 1 else n) (0 : Nat)))) w = _
  change Sem.run P (do
    let b ← Extern.Bytes.bytesOf (.string ⟨(Lib.bytesOf xs).toArray⟩)
    let c' ← Extern.Bytes.asByte (.int .u8 cv)
    pure (goInt (b.foldl (fun n x => if x == c' then n + 1 else n) (0 : Nat)))) w = _ at hs
  simp only [Extern.Bytes.bytesOf, Sem.run_bind, Sem.run_pure, hl, Result.andThen] at hs ⊢
  exact hs
theorem run_countNil {P : Program} (w : World) (l c : Nat) (cv : Int) : (Extern.BytealgCount.count #[.slice none l c, .int .u8 cv]).run P w = .ok (.int .i64 0) w := by
  have hs := Lib.run_countString (P := P) .empty cv w
  exact hs
theorem run_countEmpty {P : Program} (w : World) (A : Option Addr) (c : Nat) (cv : Int) : (Extern.BytealgCount.count #[.slice A 0 c, .int .u8 cv]).run P w = .ok (.int .i64 0) w := by
  have hs := Lib.run_countString (P := P) .empty cv w
  cases A with
  | none => exact hs
  | some ad => exact hs
/-- How many zeros a list has. -/
def zeros (xs : List Int) : Nat := Lib.countByte (Lib.bytesOf xs) 0
theorem zeros_all {xs : List Int} (h : ∀ z ∈ xs, 0 ≤ z ∧ z ≤ 255) : zeros xs = xs.length ↔ ∀ z ∈ xs, z = 0 := by
  unfold zeros Lib.countByte
  have hl := Lib.bytesOf_length xs
  constructor
  · intro e z hz
    have h1 := List.count_eq_length.1 (by rw [e, hl] : List.count 0 (Lib.bytesOf xs) = (Lib.bytesOf xs).length)
    have h2 := h1 (UInt8.ofNat z.toNat) (by unfold Lib.bytesOf; exact List.mem_map.2 ⟨z, hz, rfl⟩)
    have h3 := h z hz
    have h4 : (UInt8.ofNat z.toNat).toNat = (0 : UInt8).toNat := by rw [← h2]
    simp at h4
    omega
  · intro e
    rw [← hl]
    refine List.count_eq_length.2 (fun y hy => ?_)
    unfold Lib.bytesOf at hy
    obtain ⟨z, hz, rfl⟩ := List.mem_map.1 hy
    rw [e z hz]; rfl
set_option maxHeartbeats 1000000 in
theorem Count_any (A : Option Addr) (n c g k : Nat) (xs : List Int) (w : World) (hA : Has .u8 w A xs) (hn : xs.length = n) (hg : w.cell? ⟨g, 0, none⟩ = some (.int .u8 0)) :
    Calls Try.prog 32 #[.slice A n c, .slice (some ⟨g, 0, none⟩) 1 k] w fun e w' => e = .returned (.int .i64 (zeros xs : Nat)) ∧ w' = w := by
  subst hn
  rcases hA with rfl | ⟨b, off, rfl, hb, hc⟩
  · go_enter Try.func32, Try.ntmps32
    go_wp2
    rw [run_callFunc_extern Try.func45 (by kernel_rfl) (by kernel_rfl) (by kernel_rfl) (e := Extern.BytealgCount.count) (by kernel_rfl), run_countEmpty w A c 0]
    simp only [Result.andThen]
    rw [Oper.upon_value]
    go_wp2
    go_ret
    exact ⟨rfl, rfl⟩
  · go_enter Try.func32, Try.ntmps32
    go_wp2
    rw [run_callFunc_extern Try.func45 (by kernel_rfl) (by kernel_rfl) (by kernel_rfl) (e := Extern.BytealgCount.count) (by kernel_rfl), run_countSlice w b off xs.length c xs rfl hc 0]
    simp only [Result.andThen]
    rw [Oper.upon_value]
    go_wp2
    go_ret
    exact ⟨rfl, rfl⟩
end Go.Proofs.Ytacllaeccdgnmaa.paW
