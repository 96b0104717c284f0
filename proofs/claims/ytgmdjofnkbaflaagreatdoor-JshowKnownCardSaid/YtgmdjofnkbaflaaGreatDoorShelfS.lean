/- What this program calls of the library: the rest (nothing). -/
import Derived.Test.YtgmdjofnkbaflaaGreatDoorShelf
