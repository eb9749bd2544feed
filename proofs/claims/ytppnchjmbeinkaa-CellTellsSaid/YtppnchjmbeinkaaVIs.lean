/-
  Package cell answers as the document says.
-/
import Derived.Test.YtppnchjmbeinkaaVPut
namespace Go.Proofs.Ytppnchjmbeinkaa
theorem says : Says where
  right := fun O S L P W => right_any O S L P W
  putV := fun t O S L P ht hs W => putv_any t O S L P W ht hs
  getV := fun s hs W => getv_any s W hs
  putK := fun k t ht W => putk_any k t W ht
  getK := fun s hs W => getk_any s W hs
end Go.Proofs.Ytppnchjmbeinkaa
