/-
  DERIVED. GIVEN WITH THE SEED: THE PROGRAM's TIES (one call each: nine closed facts by the kernel) AND EACH ROW's TIE, after the 31st guide's Derived/Test/Toyas{Tie, Card}.lean. No idea stands in it: it is a product of the set-up. Laid BY PROGRAM, IN A SANDBOX (cutbox-door.mjs). By AI agents, Wed Nov 11 2026. No macro, syntax, notation, axiom, sorry.
-/
import Derived.Test.YtfnillibngijaaaGreatDoorRows
import Derived.LaidByTextLater
import Derived.SevenTiedAt
import Derived.LaidSub
import Derived.LaidOnce
namespace Go.Proofs.YtfnillibngijaaaGreatDoor
open Go
set_option maxRecDepth 100000
theorem seatTie1 : Tryz.prog.laidByTextLater [("math/bits.deBruijn32tab", Rows.laid_math_bits_deBruijn32tab), ("math/bits.deBruijn64tab", Rows.laid_math_bits_deBruijn64tab), ("groat/sha.constants", Rows.laid_groat_sha_constants), ("internal/strconv.uint64pow10", Rows.laid_internal_strconv_uint64pow10), ("unicode/utf8.acceptRanges", Rows.laid_unicode_utf8_acceptRanges), ("errors.errorType", Rows.laid_errors_errorType), ("groat/field.rows", Rows.laid_groat_field_rows), ("groat/message.rows", Rows.laid_groat_message_rows), ("groat/message.tongues", Rows.laid_groat_message_tongues), ("groat/message.errDialect", Rows.laid_groat_message_errDialect), ("groat/message.errType", Rows.laid_groat_message_errType), ("groat/message.errLong", Rows.laid_groat_message_errLong), ("groat/message.errMap", Rows.laid_groat_message_errMap), ("groat/message.errMore", Rows.laid_groat_message_errMore), ("groat/message.errField", Rows.laid_groat_message_errField), ("groat/message.errText", Rows.laid_groat_message_errText), ("groat/message.errBytes", Rows.laid_groat_message_errBytes), ("groat/message.errShort", Rows.laid_groat_message_errShort)] [.data, .data, .data, .data, .data, .handle, .data, .data, .wider, .sentinel, .sentinel, .sentinel, .sentinel, .sentinel, .sentinel, .sentinel, .sentinel, .sentinel] true :=
  Program.laidByTextLater_by_one 255 8 65 (by kernel_rfl) (by kernel_rfl) (by kernel_rfl) (by kernel_rfl) (by kernel_rfl) (by kernel_rfl) (fun _ _ => by kernel_rfl)
theorem pin_laid_unicode_utf8_first : Tryz.pinned.checked.prog.pinnedFits "unicode/utf8.first" = true := by kernel_rfl
theorem noOwnUnsafe : Tryz.pinned.checked.prog.headLifts.contains "ownunsafe" = false := by kernel_rfl
theorem fits1 : Tryz.pinned.checked.prog.listedFits [("math/bits.deBruijn32tab", Rows.laid_math_bits_deBruijn32tab), ("math/bits.deBruijn64tab", Rows.laid_math_bits_deBruijn64tab), ("groat/sha.constants", Rows.laid_groat_sha_constants), ("internal/strconv.uint64pow10", Rows.laid_internal_strconv_uint64pow10), ("unicode/utf8.acceptRanges", Rows.laid_unicode_utf8_acceptRanges), ("errors.errorType", Rows.laid_errors_errorType), ("groat/field.rows", Rows.laid_groat_field_rows), ("groat/message.rows", Rows.laid_groat_message_rows), ("groat/message.tongues", Rows.laid_groat_message_tongues), ("groat/message.errDialect", Rows.laid_groat_message_errDialect), ("groat/message.errType", Rows.laid_groat_message_errType), ("groat/message.errLong", Rows.laid_groat_message_errLong), ("groat/message.errMap", Rows.laid_groat_message_errMap), ("groat/message.errMore", Rows.laid_groat_message_errMore), ("groat/message.errField", Rows.laid_groat_message_errField), ("groat/message.errText", Rows.laid_groat_message_errText), ("groat/message.errBytes", Rows.laid_groat_message_errBytes), ("groat/message.errShort", Rows.laid_groat_message_errShort), ("unicode/utf8.first", Rows.laid_unicode_utf8_first)] = true := by
  unfold Program.listedFits
  rw [noOwnUnsafe]
  kernel_rfl
theorem tie : Tryz.prog.laidByTextLater [("math/bits.deBruijn32tab", Rows.laid_math_bits_deBruijn32tab), ("math/bits.deBruijn64tab", Rows.laid_math_bits_deBruijn64tab), ("groat/sha.constants", Rows.laid_groat_sha_constants), ("internal/strconv.uint64pow10", Rows.laid_internal_strconv_uint64pow10), ("unicode/utf8.acceptRanges", Rows.laid_unicode_utf8_acceptRanges), ("errors.errorType", Rows.laid_errors_errorType), ("groat/field.rows", Rows.laid_groat_field_rows), ("groat/message.rows", Rows.laid_groat_message_rows), ("groat/message.tongues", Rows.laid_groat_message_tongues), ("groat/message.errDialect", Rows.laid_groat_message_errDialect), ("groat/message.errType", Rows.laid_groat_message_errType), ("groat/message.errLong", Rows.laid_groat_message_errLong), ("groat/message.errMap", Rows.laid_groat_message_errMap), ("groat/message.errMore", Rows.laid_groat_message_errMore), ("groat/message.errField", Rows.laid_groat_message_errField), ("groat/message.errText", Rows.laid_groat_message_errText), ("groat/message.errBytes", Rows.laid_groat_message_errBytes), ("groat/message.errShort", Rows.laid_groat_message_errShort)] [.data, .data, .data, .data, .data, .handle, .data, .data, .wider, .sentinel, .sentinel, .sentinel, .sentinel, .sentinel, .sentinel, .sentinel, .sentinel, .sentinel] true :=
  Program.laidByTextLater.sub seatTie1 ["math/bits.deBruijn32tab", "math/bits.deBruijn64tab", "groat/sha.constants", "internal/strconv.uint64pow10", "unicode/utf8.acceptRanges", "errors.errorType", "groat/field.rows", "groat/message.rows", "groat/message.tongues", "groat/message.errDialect", "groat/message.errType", "groat/message.errLong", "groat/message.errMap", "groat/message.errMore", "groat/message.errField", "groat/message.errText", "groat/message.errBytes", "groat/message.errShort"] (by kernel_rfl) (by kernel_rfl)
theorem sessionBoards_row_tie : Rows.sessionBoardsRow.laidByTextAt .later Tryz.pinned [.data, .data, .data, .data, .data, .handle, .data, .data, .wider, .sentinel, .sentinel, .sentinel, .sentinel, .sentinel, .sentinel, .sentinel, .sentinel, .sentinel, .pinned] true :=
  OpenClaim.laidByTextAt_pinned rfl rfl tie rfl rfl rfl rfl (fun y hy _e => by
    simp only [Rows.sessionBoardsRow, List.zip_cons_cons, List.zip_nil_right, List.mem_cons, List.mem_nil_iff, or_false] at hy
    rcases hy with rfl | rfl | rfl | rfl | rfl | rfl | rfl | rfl | rfl | rfl | rfl | rfl | rfl | rfl | rfl | rfl | rfl | rfl | rfl
    · cases _e
    · cases _e
    · cases _e
    · cases _e
    · cases _e
    · cases _e
    · cases _e
    · cases _e
    · cases _e
    · cases _e
    · cases _e
    · cases _e
    · cases _e
    · cases _e
    · cases _e
    · cases _e
    · cases _e
    · cases _e
    · exact ⟨pin_laid_unicode_utf8_first, by kernel_rfl⟩) fits1
theorem sessionBoardsUpto_row_tie : Rows.sessionBoardsUptoRow.laidByTextAt .later Tryz.pinned [.data, .data, .data, .data, .data, .handle, .data, .data, .wider, .sentinel, .sentinel, .sentinel, .sentinel, .sentinel, .sentinel, .sentinel, .sentinel, .sentinel, .pinned] true :=
  OpenClaim.laidByTextAt_pinned rfl rfl tie rfl rfl rfl rfl (fun y hy _e => by
    simp only [Rows.sessionBoardsUptoRow, List.zip_cons_cons, List.zip_nil_right, List.mem_cons, List.mem_nil_iff, or_false] at hy
    rcases hy with rfl | rfl | rfl | rfl | rfl | rfl | rfl | rfl | rfl | rfl | rfl | rfl | rfl | rfl | rfl | rfl | rfl | rfl | rfl
    · cases _e
    · cases _e
    · cases _e
    · cases _e
    · cases _e
    · cases _e
    · cases _e
    · cases _e
    · cases _e
    · cases _e
    · cases _e
    · cases _e
    · cases _e
    · cases _e
    · cases _e
    · cases _e
    · cases _e
    · cases _e
    · exact ⟨pin_laid_unicode_utf8_first, by kernel_rfl⟩) fits1
end Go.Proofs.YtfnillibngijaaaGreatDoor
