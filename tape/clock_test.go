package tape

import (
	"math"
	"math/rand"
	"slices"
	"testing"

	"shallot/api"
)

// model is a clock as the chapter tells it, slow and plain.
type model struct {
	now    int
	timers []timer // in the order in which they were set
}

func (m *model) set(after, what int) api.Errno {
	switch {
	case after < 0 || after > 1000000:
		return api.ErrArg
	case len(m.timers) == 64:
		return api.ErrBound
	}
	m.timers = append(slices.Clone(m.timers), timer{m.now + after, what})
	return api.OK
}

func (m *model) due(until int) (int, bool) {
	sorted := slices.Clone(m.timers)
	slices.SortStableFunc(sorted, func(a, b timer) int { return a.at - b.at })
	if len(sorted) == 0 || sorted[0].at > until {
		return 0, false
	}
	t := sorted[0]
	m.now = max(m.now, t.at)
	i := slices.Index(m.timers, t)
	m.timers = slices.Delete(slices.Clone(m.timers), i, i+1)
	return t.what, true
}

func (m *model) move(to int) api.Errno {
	if to < m.now || to > 1099511627776 {
		return api.ErrArg
	}
	m.now = to
	return api.OK
}

// both is a clock beside its model.
type both struct {
	Clock
	m model
}

func (b *both) agree(t *testing.T) {
	t.Helper()
	if b.Now() != b.m.now || b.Waiting() != len(b.m.timers) {
		t.Errorf("at %d with %d timers, not at %d with %d", b.Now(), b.Waiting(), b.m.now, len(b.m.timers))
	}
}

func (b *both) set(t *testing.T, after, what int) {
	t.Helper()
	want := b.m.set(after, what)
	if e := b.Set(after, what); e != want {
		t.Errorf("Set(%d, %d) = %v, not %v", after, what, e, want)
	}
	b.agree(t)
}

func (b *both) due(t *testing.T, until int) {
	t.Helper()
	what, ok := b.m.due(until)
	if got, found := b.Due(until); got != what || found != ok {
		t.Errorf("Due(%d) = %d, %v, not %d, %v", until, got, found, what, ok)
	}
	b.agree(t)
}

func (b *both) move(t *testing.T, to int) {
	t.Helper()
	want := b.m.move(to)
	if e := b.Move(to); e != want {
		t.Errorf("Move(%d) = %v, not %v", to, e, want)
	}
	b.agree(t)
}

// rings checks what Due returns, and where the clock is then.
func rings(t *testing.T, c *Clock, until, what int, ok bool, now, waiting int) {
	t.Helper()
	if got, found := c.Due(until); got != what || found != ok {
		t.Errorf("Due(%d) = %d, %v, not %d, %v", until, got, found, what, ok)
	}
	if c.Now() != now || c.Waiting() != waiting {
		t.Errorf("behind Due(%d): at %d with %d timers, not at %d with %d", until, c.Now(), c.Waiting(), now, waiting)
	}
}

// TestClockExample is of P8.2: that of the chapter.
func TestClockExample(t *testing.T) {
	var c Clock
	for _, s := range [][2]int{{5, 7}, {3, 8}, {5, 9}} {
		if e := c.Set(s[0], s[1]); e != api.OK {
			t.Errorf("Set(%d, %d): %v", s[0], s[1], e)
		}
	}
	rings(t, &c, 2, 0, false, 0, 3)
	rings(t, &c, 9, 8, true, 3, 2)
	rings(t, &c, 9, 7, true, 5, 1)
	rings(t, &c, 5, 9, true, 5, 0)
	rings(t, &c, 9, 0, false, 5, 0)
	if e := c.Move(4); e != api.ErrArg || c.Now() != 5 {
		t.Errorf("Move(4) at 5: %v, at %d", e, c.Now())
	}
}

// TestClockZero is of P8.2: tick 0, no timers.
func TestClockZero(t *testing.T) {
	var c Clock
	if c.Now() != 0 || c.Waiting() != 0 {
		t.Errorf("the zero Clock is at %d with %d timers", c.Now(), c.Waiting())
	}
	for _, until := range []int{0, -1, 1, math.MaxInt, math.MinInt} {
		rings(t, &c, until, 0, false, 0, 0)
	}
	c.Set(0, 6)
	rings(t, &c, -1, 0, false, 0, 1)
	rings(t, &c, math.MinInt, 0, false, 0, 1)
	rings(t, &c, 0, 6, true, 0, 0)
}

// TestClockPassedOver is of P8.2: a timer that Move has passed keeps waiting, and leaves the clock where it is.
func TestClockPassedOver(t *testing.T) {
	var c Clock
	c.Set(3, 1)
	c.Set(2, 4)
	c.Set(12, 5)
	if e := c.Move(10); e != api.OK || c.Waiting() != 3 {
		t.Errorf("Move(10): %v, %d timers", e, c.Waiting())
	}
	c.Set(0, 6)
	rings(t, &c, 1, 0, false, 10, 4)
	rings(t, &c, 2, 4, true, 10, 3)
	rings(t, &c, 20, 1, true, 10, 2)
	rings(t, &c, 9, 0, false, 10, 2)
	rings(t, &c, 10, 6, true, 10, 1)
	rings(t, &c, 11, 0, false, 10, 1)
	rings(t, &c, 12, 5, true, 12, 0)
}

// TestSetRefuses is of P8.2: the edges of a delay, and as many timers as there may be; ErrArg comes ahead of ErrBound.
func TestSetRefuses(t *testing.T) {
	var b both
	wrong := []int{-1, math.MinInt, api.MaxDelay + 1, math.MaxInt}
	for i := range api.MaxTimers {
		for _, after := range wrong {
			if b.set(t, after, 1); b.Waiting() != i {
				t.Errorf("Set(%d, 1) adds a timer", after)
			}
		}
		b.set(t, []int{0, api.MaxDelay, 500}[i%3], i)
	}
	for _, after := range append(wrong, 0, 1, api.MaxDelay) {
		b.set(t, after, 1)
	}
	if e := b.Set(0, 99); e != api.ErrBound || b.Waiting() != 64 {
		t.Errorf("Set with 64 timers: %v, %d timers", e, b.Waiting())
	}
	b.due(t, 0)
	b.set(t, 0, -7)
	b.set(t, 0, 8)
	for range api.MaxTimers + 1 {
		b.due(t, math.MaxInt)
	}
	if b.Now() != api.MaxDelay || b.Waiting() != 0 {
		t.Errorf("at %d with %d timers", b.Now(), b.Waiting())
	}
}

// TestTimerValues is of P8.2: any value, also the one that is returned when there is no timer.
func TestTimerValues(t *testing.T) {
	var c Clock
	for _, what := range []int{0, -1, math.MinInt, math.MaxInt, 1 << 40} {
		c.Set(1, what)
		rings(t, &c, c.Now()+1, what, true, c.Now()+1, 0)
	}
}

// TestMove is of P8.2: to the tick where the clock is, forward, never back, to MaxTick at most.
func TestMove(t *testing.T) {
	if MaxTick != 1099511627776 {
		t.Errorf("MaxTick = %d", MaxTick)
	}
	var b both
	for _, to := range []int{0, -1, math.MinInt, MaxTick + 1, math.MaxInt, 0, 7, 7, 6, 0, -1, MaxTick + 1, 8, MaxTick - 1, MaxTick, MaxTick, MaxTick - 1, MaxTick + 1, math.MaxInt} {
		b.move(t, to)
	}
	if b.Now() != MaxTick {
		t.Errorf("at %d", b.Now())
	}
}

// TestClockBeyond is of the details: timers go beyond MaxTick, and no Move does from there.
func TestClockBeyond(t *testing.T) {
	var c Clock
	c.Move(MaxTick)
	for i := range 3 {
		at := MaxTick + (i+1)*api.MaxDelay
		if e := c.Set(api.MaxDelay, 5); e != api.OK {
			t.Errorf("Set at %d: %v", c.Now(), e)
		}
		rings(t, &c, at-1, 0, false, at-api.MaxDelay, 1)
		rings(t, &c, at, 5, true, at, 0)
		for _, to := range []int{0, MaxTick - 1, MaxTick, MaxTick + 1, at - 1, at, at + 1, math.MaxInt} {
			if e := c.Move(to); e != api.ErrArg || c.Now() != at {
				t.Errorf("Move(%d) at %d: %v", to, c.Now(), e)
			}
		}
	}
}

// TestClockAnyCalls is of P8.2 and P8.5: each sequence of six calls, on copies of one clock, against the model.
func TestClockAnyCalls(t *testing.T) {
	steps := []func(b *both, what int){
		func(b *both, what int) { b.set(t, 0, what) },
		func(b *both, what int) { b.set(t, 2, what) },
		func(b *both, what int) { b.set(t, 3, what) },
		func(b *both, what int) { b.due(t, b.Now()) },
		func(b *both, what int) { b.due(t, 2) },
		func(b *both, what int) { b.due(t, math.MaxInt) },
		func(b *both, what int) { b.move(t, b.Now()+1) },
		func(b *both, what int) { b.move(t, 2) },
	}
	var walk func(b both, depth int)
	walk = func(b both, depth int) {
		b.agree(t)
		if depth == 0 || t.Failed() {
			return
		}
		for i, step := range steps {
			next := b
			step(&next, 10*depth+i)
			walk(next, depth-1)
		}
	}
	walk(both{}, 6)
}

// TestClockLong is of P8.2: long runs of calls about the greatest number of timers, against the model.
func TestClockLong(t *testing.T) {
	for seed := range int64(20) {
		r := rand.New(rand.NewSource(seed))
		var b both
		for i := range 2000 {
			switch r.Intn(8) {
			case 0, 1, 2, 3:
				b.set(t, r.Intn(20)-1, i)
			case 4, 5:
				b.due(t, b.Now()+r.Intn(12)-2)
			case 6:
				b.due(t, b.Now()+100)
			default:
				b.move(t, b.Now()+r.Intn(4)-1)
			}
		}
		for b.Waiting() > 0 && !t.Failed() {
			b.due(t, math.MaxInt)
		}
	}
}
