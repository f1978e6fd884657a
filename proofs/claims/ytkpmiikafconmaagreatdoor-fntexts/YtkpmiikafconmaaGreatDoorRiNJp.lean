import Derived.Test.YtkpmiikafconmaaGreatDoorGnYJp
namespace Go.Proofs.YtkpmiikafconmaaGreatDoor
open Go.RowKit
set_option linter.unusedVariables false
set_option linter.unusedSimpArgs false
theorem text_ok{s:ByteArray}{d:InstD}(h:instText d=s)(hs:¬s=⟨#[]⟩):ReadOk s d:=by
 unfold instText at h
 split at h
 ·rename_i k
  exact⟨k,h.symm⟩
 ·exact absurd h.symm hs
theorem ok_text{s:ByteArray}{d:InstD}(h:ReadOk s d):instText d=s:=by
 unfold instText
 rw[if_pos h.1]
 exact h.2.symm
end Go.Proofs.YtkpmiikafconmaaGreatDoor
