/- Parts of a law: SetDraw3. Conditions: on sizes, as each says. -/
import Derived.Test.YtiaoifodaoifjaaGreatZ1
import Derived.Test.YtiaoifodaoifjaaGreatZ42
set_option linter.unusedSimpArgs false
set_option linter.unusedVariables false
