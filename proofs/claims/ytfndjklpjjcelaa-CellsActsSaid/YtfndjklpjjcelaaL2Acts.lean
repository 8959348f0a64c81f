/- What CellsActs leans on: its walk over the model, and the program's memory. -/
import Derived.Test.YtfndjklpjjcelaaActsAll
import Derived.Test.YtfndjklpjjcelaaPWords
