/- Joined texts. -/
-- PACK: YtgfdomdbjiflmaaDoorCmacAwake
import Derived.Test.YtgfdomdbjiflmaaDoorDj46
import Derived.Test.YtgfdomdbjiflmaaDoorDj28

/- Package cmac: a tag checked; what the law calls awake, for layer 11. -/
namespace Go.Proofs.YtgfdomdbjiflmaaDoor
open Go.RowKit
namespace Cmac
open Rnd Aes
def rfcK : ByteArray := ⟨#[43, 126, 21, 22, 40, 174, 210, 166, 171, 247, 21, 136, 9, 207, 79, 60]⟩
def rfcT : ByteArray := ⟨#[187, 29, 105, 41, 233, 89, 55, 40, 127, 163, 125, 18, 155, 117, 103, 70]⟩
theorem rfc : tagK rfcK ⟨#[]⟩ = rfcT := by
  apply ba_ext
  decide +kernel
end Cmac
end Go.Proofs.YtgfdomdbjiflmaaDoor
