/- What CellsKnown leans on: its walk over the model, and the program's memory. -/
import Derived.Test.YtfndjklpjjcelaaKnown
import Derived.Test.YtfndjklpjjcelaaPWords
