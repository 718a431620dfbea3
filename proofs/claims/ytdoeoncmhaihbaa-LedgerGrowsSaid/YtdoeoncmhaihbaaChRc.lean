/- The document's chain: Make. -/
import Derived.Test.YtdoeoncmhaihbaaChRb
import Derived.Test.YtdoeoncmhaihbaaCLs
namespace Go.Proofs.Ytdoeoncmhaihbaa
set_option maxRecDepth 100000
open Go.RowKit Go.ChangeShapes Go.WideShapes Go.ChangeAt

/-- A block on the way that isn't below the slot: none is made. -/
theorem mk_late {K : List BlkD} (h : TrS.Uq K) (hs : TrS.Stood K) {slot me : Int} {txs : List TxD} {x : Int} (hx : x ∈ TrS.path K (TrS.tip K)) (hl : slot ≤ x / 65536) : ¬ (mkB slot me K txs).Right := by
  intro hr
  obtain ⟨b, hb, hbn⟩ := TrS.path_get hx
  have hxs := (h.path_slots hs b hb).2 x (by rw [hbn]; exact hx)
  have hp := hr.p
  have hb0 := (h.right b hb).name0
  have hsn := (h.right b hb).slot_name
  rcases hp with hp | ⟨_, hp⟩
  · exact hb0 (by rw [hbn]; exact hp)
  · have hp' : TrS.tip K / 65536 < slot := hp
    rw [← hbn, hsn] at hp'
    omega
end Go.Proofs.Ytdoeoncmhaihbaa
