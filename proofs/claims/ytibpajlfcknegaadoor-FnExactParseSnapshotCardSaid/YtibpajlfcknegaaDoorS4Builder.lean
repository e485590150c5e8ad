/-
  (Nothing of this at this seat.)
-/
