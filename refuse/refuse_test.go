package refuse_test

import (
	"testing"

	"deltaworks/api"
	"deltaworks/refuse"
)

// half returns half of an even number, an error of an odd one.
func half(n int) (int, api.Errno) {
	if n%2 != 0 {
		return 7, api.ErrRange
	}
	return n / 2, api.OK
}

func TestAnswer(t *testing.T) { // R2, P1
	for i, x := range []struct {
		made func() int
		n    int
		e    api.Errno
	}{
		{func() int { return 5 }, 5, api.OK},
		{func() int { return refuse.Unless(half(8)) + 1 }, 5, api.OK},
		{func() int { return refuse.Unless(half(9)) + 1 }, 0, api.ErrRange},
		{func() int { refuse.With(api.ErrFull); return 5 }, 0, api.ErrFull},
		{func() int { refuse.Demand(true, api.ErrFull); return 5 }, 5, api.OK},
		{func() int { refuse.Demand(false, api.ErrFull); return 5 }, 0, api.ErrFull},
		{func() int { defer refuse.With(api.ErrFull); return 5 }, 0, api.ErrFull},
		{func() int { return []int{1}[len("ab")] }, 0, api.ErrArg},
	} {
		if n, e := refuse.Answer(x.made); n != x.n || e != x.e {
			t.Errorf("%d: %d, %d", i, n, e)
		}
	}
}

func TestInnermostAnswers(t *testing.T) {
	n, e := refuse.Answer(func() int {
		_, inner := refuse.Answer(func() int { refuse.With(api.ErrLong); return 1 })
		return int(inner)
	})
	if n != int(api.ErrLong) || e != api.OK {
		t.Errorf("%d, %d", n, e)
	}
}
