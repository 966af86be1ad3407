/- the reader beside tests -/
import Derived.Test.YtokekgfompbdiaaDoorRlC
import Derived.Test.YtokekgfompbdiaaDoorRdE
