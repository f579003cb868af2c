/- The program's Objects. -/
import Derived.Test.YtmckcnmlhgpnhaaGreatProg
import Derived.Test.YtmckcnmlhgpnhaaGreatKHeadL
import Derived.Test.YtmckcnmlhgpnhaaGreatKHeadS
namespace Go.Proofs.YtmckcnmlhgpnhaaGreat
set_option maxRecDepth 20000
open Go.RowKit
set_option linter.unusedSimpArgs false
set_option linter.unusedVariables false

/-- How many objects an arena of so many words has. -/
theorem laid_places {ws : List Int} {serial : Int} {S T : Nat} {cyc : Bool} {F : Nat} {old copied scan : Int} {L O : List Nat} (h : Laid ws serial S T cyc F old copied scan L O) (hn : ws.length ≤ 8000) : (L ++ hdsO ws O).length ≤ 16000 := by
  have h1 := chain_length h.til.use
  have h2 := h.Tn
  have h3 : (hdsO ws O).length ≤ O.length := by unfold hdsO; exact List.length_filter_le _ _
  have h4 : O.length ≤ 8000 := by
    cases cyc with
    | false => rw [h.til.still rfl]; simp
    | true =>
      have h5 := chain_length (h.til.runs rfl).1
      have h6 := h.On rfl
      omega
  simp
  omega
theorem ownF_prefix {B T : Nat} {t : TypeId} {w : World} {a : Option Addr} {c n m n' m' : Nat} {f : Nat → Value} (h : OwnF B T t w (.slice a n c) n m f) (hm : m' ≤ m) (hn : n' ≤ n) : OwnF B T t w (.slice a n' c) n' m' f := by
  obtain ⟨a', c', he, h⟩ := h
  simp only [Value.slice.injEq] at he
  obtain ⟨rfl, _, rfl⟩ := he
  refine ⟨_, _, rfl, ?_⟩
  rcases h with h | ⟨b, M, g, rfl, hB, hT, hM, hr, hf⟩
  · exact .inl (by omega)
  · exact .inr ⟨b, M, g, rfl, hB, hT, by omega, hr, fun i hi => hf i (by omega)⟩
end Go.Proofs.YtmckcnmlhgpnhaaGreat
