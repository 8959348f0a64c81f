/- What CellsCopies leans on: its walk over the model, and the program's memory. -/
import Derived.Test.YtfndjklpjjcelaaCopies
import Derived.Test.YtfndjklpjjcelaaPWords
