package command

import (
	"math"
	"testing"

	"shallot/api"
)

// TestTold is of P10.4: the questions, and what is promoted.
func TestTold(t *testing.T) {
	for kind := range 256 {
		told := Told{Command: api.Command{Kind: byte(kind), Next: 1}}
		if got := told.Last(); got != (kind != 1) {
			t.Errorf("Last of the kind %d: %v", kind, got)
		}
	}
	for _, delay := range []uint32{0, 1, 258, 1000000, 1000001, math.MaxInt32, math.MaxInt32 + 1, math.MaxUint32} {
		told := Told{Command: api.Command{Kind: 1, Flags: 3, Delay: delay, Next: 9, Mark: marked()}}
		if got := told.Wait(); got != int(delay) {
			t.Errorf("Wait of the delay %d = %d", delay, got)
		}
		if told.Kind != 1 || told.Flags != 3 || told.Delay != delay || told.Next != 9 || told.Mark != marked() {
			t.Errorf("what is promoted: %v", told)
		}
	}
	if none := (Told{}); !none.Last() || none.Wait() != 0 {
		t.Errorf("a zero Told: %v, %d", none.Last(), none.Wait())
	}
}

// TestTell is of P10.4: each command as it is, right or wrong, in order.
func TestTell(t *testing.T) {
	list := commands()
	for _, n := range []int{0, 1, 2, 5, 6, len(list)} {
		told := Tell(list[:n]...)
		if len(told) != n {
			t.Fatalf("Tell of %d commands returns %d", n, len(told))
		}
		for i, got := range told {
			if got != (Told{Command: list[i]}) {
				t.Errorf("Tell of %v = %v", list[i], got)
			}
		}
	}
	if told := Tell(); len(told) != 0 {
		t.Errorf("Tell of nothing = %v", told)
	}
	path, _ := Path(api.Command{Kind: api.Cover}, good(3)...)
	for i, told := range Tell(path...) {
		if told.Last() != (i == 2) || told.Wait() != 200000*i {
			t.Errorf("the hop %d is told %v", i, told)
		}
	}
}
