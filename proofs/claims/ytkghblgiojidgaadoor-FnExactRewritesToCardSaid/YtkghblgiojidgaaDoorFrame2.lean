/- What rows of two arguments share (all of it lies in Ends now). -/
import Derived.Test.YtkghblgiojidgaaDoorFrame
