/-
  Walks: impl.turned, impl.TurnWord; the exchange of bytes by slices.Reverse is taken by its contract.
-/
import Derived.Test.YtiibadmijhbioaaTurn
import Derived.Test.YtiibadmijhbioaaShelf
import Derived.Lib.OwnBridge
namespace Go.Proofs.Ytiibadmijhbioaa
open Go.RowKit
open Wd
set_option linter.unusedVariables false

def encB (c : UInt8) : Value := .int .u8 c.toNat

theorem reverse_byte (blk off cap : Nat) (zs : List UInt8) (w : World) (hH : Sort.Holds encB w blk off zs.toArray) (hsz : zs.length ≤ 9223372036854775807) :
    Calls Try.prog 68 #[.slice (some ⟨blk, off, none⟩) zs.length cap] w fun e w' => e = .returned (.tuple #[]) ∧ ∃ n, w' = Sort.putRow encB (Sort.ahead w n) blk off zs.reverse.toArray :=
  AnyE.slices_Reverse Try.laysRev encB (fun _ => rfl) blk off cap zs w hH hsz

theorem holds_conv (w : World) (s : ByteArray) (cap : Nat) (e : TypeId) : Sort.Holds encB (w.alloc (.cells (bytesRow s cap) e ((bytesRow s cap).size, (bytesRow s cap).size + 1))) w.heap.size 0 s.data.toList.toArray := by
  intro j hj
  have hj' : j < s.data.size := by simpa using hj
  have hsz : j < (bytesRow s cap).size := (Array.getElem?_eq_some_iff.1 (bytesRow_at s cap j hj')).1
  constructor
  · rw [Nat.zero_add, World.cell?_alloc_mark, bytesRow_at s cap j hj', getElem!_pos (s.data.toList.toArray) j hj]
    simp [encB]
  · rw [Nat.zero_add, World.frozen?_alloc_mark]
    simp; omega

set_option maxHeartbeats 400000 in
theorem implTurned (s : ByteArray) (w : World) (hs : s.size ≤ 1000000) :
    Calls Try.prog 46 #[.string s] w fun e w' => e = .returned (.string ⟨s.data.toList.reverse.toArray⟩) ∧ Below w.heap.size w w' := by
  have hconv := run_bytes_of_string (P := Try.prog) w 9 22 5 s Try.underlying9 Try.underlying22 Try.underlying5
  have hH := holds_conv w.drew s (grownCap w s.size 0 5) 5
  generalize grownCap w s.size 0 5 = cap at hconv hH
  have hbel : Below w.heap.size w (w.drew.alloc (.cells (bytesRow s cap) 5 ((bytesRow s cap).size, (bytesRow s cap).size + 1))) := (Below.refl _ w).drew.alloc (Nat.le_refl _) _
  have hlen : s.data.toList.length = s.size := by simp
  have hsz : (World.drew w).heap.size = w.heap.size := rfl
  rw [hsz] at hH
  generalize w.drew.alloc (.cells (bytesRow s cap) 5 ((bytesRow s cap).size, (bytesRow s cap).size + 1)) = w1 at hconv hH hbel
  have hrev := reverse_byte w.heap.size 0 cap s.data.toList w1 hH (by rw [hlen]; omega)
  rw [hlen] at hrev
  have HR := Lib.hid hrev
  have HH := Lib.hid hH
  clear hH hrev hlen hsz
  go_enter Try.func46, Try.ntmps46
  go_wp2_with fail
  refine HR.out.mono ?_
  rintro e w2 ⟨rfl, n, hw2⟩
  have hh2 : Sort.Holds encB w2 w.heap.size 0 s.data.toList.reverse.toArray := by
    rw [hw2]; exact Sort.holds_putRow encB _ _ _ _ _ (by intro j hj; exact HH.out j hj) (by simp)
  have hb2 : Below w.heap.size w w2 := by rw [hw2]; exact Lib.below_putRow hbel (Nat.le_refl _)
  have hback := run_convert_bytes_back (P := Try.prog) w2 22 9 5 ⟨w.heap.size, 0, none⟩ cap s.data.toList.reverse Try.underlying22 Try.underlying5 Try.underlying9 (fun j hj => by
    have := (hh2 j (by simpa using hj)).1
    rw [Nat.zero_add] at this
    rw [show (⟨w.heap.size, 0, none⟩ : Addr).add j = ⟨w.heap.size, j, none⟩ from by rw [Addr.add_lit, Nat.zero_add], this]
    simp at hj
    simp [encB, getElem!_pos, hj])
  have hl2 : s.data.toList.reverse.length = s.size := by simp
  rw [hl2] at hback
  clear hh2 hw2 hl2
  go_wp2
  go_ret
  exact ⟨rfl, hb2⟩

end Go.Proofs.Ytiibadmijhbioaa
