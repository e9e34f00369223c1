import Derived.Test.YthkmcnlciefnfaaGreatZ4Bv
/- Plain lemmas on turned words: the shapes in which the program and the document's own answer turn a word, as rotateLeft. -/
namespace Go.Bv

end Go.Bv
