import Derived.Test.YtcnollkkigiobaaGreatNd51
set_option linter.unusedVariables false
set_option maxRecDepth 100000
namespace Go.Proofs.YtcnollkkigiobaaGreat
open Go.RowKit Go.Deep

theorem idLawV (vi vq:Value) (w:World) (h1:IsIndex w vi) (h2:IsQuad vq):Calls Tryz.prog 5 #[vi,vq] w fun e w'=>e=.returned (.bool true)/\Below w.heap.size w w':=by
 obtain ⟨a,n,c,M,T,rfl,ha,hX,hn⟩:=h1
 obtain ⟨s,p,o,g,rfl⟩:=h2
 exact idLaw a n c M T ⟨s,p,o,g⟩ w ha hX hn
end Go.Proofs.YtcnollkkigiobaaGreat
