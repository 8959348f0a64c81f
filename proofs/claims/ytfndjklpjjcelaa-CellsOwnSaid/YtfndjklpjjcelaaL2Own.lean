/- What CellsOwn leans on: its walk over the model, and the program's memory. -/
import Derived.Test.YtfndjklpjjcelaaOwn
import Derived.Test.YtfndjklpjjcelaaPWords
