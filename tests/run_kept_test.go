package tests

import (
	"testing"

	"loop.example/g00664/impl"
)

// checkKept holds for P14 and P15 of a box of what LoadImage took: it breaks nothing, and each instruction that it runs is the one that the validator decoded there.
func checkKept(t *testing.T, l impl.Loaded, b impl.Box) (impl.Box, int) {
	t.Helper()
	checkBreaches(t, b, l, impl.MaxFuel, nil)
	text, starts := spanOf(l.Memory, l.TextAt, l.Size), map[int]bool{}
	for _, start := range l.Report.Starts {
		starts[l.TextAt+start] = true
	}
	last, many, code := impl.RunBox(b, impl.MaxFuel)
	if (code == impl.ErrFuel) != (last.State == impl.BxRun) || code != impl.OK && code != impl.ErrFuel || !impl.BoxOK(last) {
		t.Errorf("RunBox of what was loaded: %s, %d, %q", toldBox(last), many, impl.CodeWord(code))
	}
	trace, _ := impl.TraceBox(b, impl.MaxFuel)
	for i, rip := range trace {
		if _, tramp := trampByHand(rip); tramp {
			continue
		}
		if !starts[rip] {
			if i != len(trace)-1 || last.Fault != impl.ErrFetch {
				t.Fatalf("step %d of %s is at %d, which is no start", i, toldLoaded(l), rip)
			}
			continue
		}
		fetched, code := impl.FetchAt(last.Memory, rip)
		x, c := impl.Decode(fetched, 0)
		if y, c2 := impl.Decode(text, rip-l.TextAt); x != y || code != impl.OK || c != impl.OK || c2 != impl.OK {
			t.Fatalf("what is run at %d is %+v, %d, %d, where the validator saw %+v, %d", rip, x, code, c, y, c2)
		}
	}
	if spanOf(last.Memory, l.TextAt, l.Size) != text {
		t.Errorf("the code of %s is changed", toldLoaded(l))
	}
	return last, many
}
