package frame_test

import (
	"math"
	"slices"
	"testing"

	"shallot/api"
	"shallot/frame"
)

// counts compares what Count returns.
func counts(t *testing.T, n, want int, err api.Errno) {
	t.Helper()
	if got, e := frame.Count(n); got != want || e != err {
		t.Errorf("Count(%d) = %d, %v, not %d, %v", n, got, e, want, err)
	}
}

// split returns the parts of a message, which must have no error.
func split(t *testing.T, id uint64, msg []byte) []api.Part {
	t.Helper()
	list, e := frame.Split(id, msg)
	if e != api.OK {
		t.Fatalf("Split of %d bytes: %v", len(msg), e)
	}
	return list
}

// merges compares what Merge returns.
func merges(t *testing.T, want []byte, err api.Errno, list ...api.Part) {
	t.Helper()
	if got, e := frame.Merge(list...); e != err || !slices.Equal(got, want) {
		t.Errorf("Merge(%v) = %v, %v, not %v, %v", list, got, e, want, err)
	}
}

// TestCount is of P11.3: every length of a message, and those that are none.
func TestCount(t *testing.T) {
	for n := 0; n <= 7200; n++ {
		want := 1
		for want*450 < n {
			want++
		}
		counts(t, n, want, api.OK)
	}
	for n, want := range map[int]int{0: 1, 450: 1, 451: 2, 900: 2, 901: 3, 6750: 15, 6751: 16, 7200: 16} {
		counts(t, n, want, api.OK)
	}
	for _, n := range []int{7201, 7202, 7650, 1 << 32, math.MaxInt - 449, math.MaxInt - 448, math.MaxInt} {
		counts(t, n, 0, api.ErrSize)
	}
	for _, n := range []int{-1, -450, -7201, math.MinInt + 1, math.MinInt} {
		counts(t, n, 0, api.ErrArg)
	}
}

// TestSplitExamples is of P11.3: the document's examples.
func TestSplitExamples(t *testing.T) {
	msg := some(451)
	list := split(t, 7, msg)
	if len(list) != 2 || !same(list[0], api.Part{Kind: 1, Id: 7, Index: 0, Count: 2, Data: msg[:450]}) || !same(list[1], api.Part{Kind: 1, Id: 7, Index: 1, Count: 2, Data: msg[450:]}) {
		t.Errorf("Split(7, 451 bytes) = %v", list)
	}
	for _, none := range [][]byte{nil, {}} {
		if list := split(t, 7, none); len(list) != 1 || !same(list[0], api.Part{Kind: 1, Id: 7, Count: 1}) {
			t.Errorf("Split(7, ()) = %v", list)
		}
	}
}

// TestSplit is of P11.3: messages of all lengths around those of whole parts, and their parts' forms.
func TestSplit(t *testing.T) {
	msg := some(7200)
	for whole := range 17 {
		for n := max(0, whole*450-2); n <= min(7200, whole*450+2); n++ {
			for _, id := range []uint64{0, 1, 7, math.MaxUint64} {
				list := split(t, id, msg[:n])
				count, e := frame.Count(n)
				if e != api.OK || len(list) != count {
					t.Fatalf("Split of %d bytes: %d parts; Count %d, %v", n, len(list), count, e)
				}
				for i, p := range list {
					want := api.Part{Kind: 1, Id: id, Index: i, Count: count, Data: msg[i*450 : min(i*450+450, n)]}
					if !same(p, want) || frame.Check(p) != api.OK {
						t.Fatalf("Split of %d bytes: part %d is %v", n, i, p)
					}
				}
			}
		}
	}
}

// TestSplitRefuses is of P11.3: messages that are too long.
func TestSplitRefuses(t *testing.T) {
	for _, n := range []int{7201, 7202, 7650, 14400, 1 << 20} {
		if list, e := frame.Split(1, make([]byte, n)); len(list) != 0 || e != api.ErrSize {
			t.Errorf("Split of %d bytes = %v, %v", n, list, e)
		}
	}
}

// orders calls do with each order of the list.
func orders(list []api.Part, at int, do func([]api.Part)) {
	if at == len(list) {
		do(list)
		return
	}
	for i := at; i < len(list); i++ {
		list[at], list[i] = list[i], list[at]
		orders(list, at+1, do)
		list[at], list[i] = list[i], list[at]
	}
}

// TestMergeOrders is of P11.4: the parts of a message in any order.
func TestMergeOrders(t *testing.T) {
	msg := some(7200)
	for _, n := range []int{0, 1, 449, 450, 451, 900, 901, 1350, 1400, 2200} {
		tried := 0
		orders(split(t, 9, msg[:n]), 0, func(list []api.Part) {
			tried++
			merges(t, msg[:n], api.OK, list...)
		})
		if n == 2200 && tried != 120 {
			t.Errorf("%d orders of five parts", tried)
		}
	}
	for _, n := range []int{6751, 7199, 7200} {
		list := split(t, math.MaxUint64, msg[:n])
		for turn := range 16 {
			turned := slices.Concat(list[turn:], list[:turn])
			merges(t, msg[:n], api.OK, turned...)
			slices.Reverse(turned)
			merges(t, msg[:n], api.OK, turned...)
		}
	}
}

// TestMergeUneven is of P11.4: parts of whatever lengths, as no Split makes them.
func TestMergeUneven(t *testing.T) {
	sizes := []int{0, 450, 3, 0, 1}
	list := make([]api.Part, len(sizes))
	var want []byte
	for i, n := range sizes {
		list[i] = api.Part{Kind: 1, Id: 2, Index: i, Count: len(sizes), Data: slices.Repeat([]byte{byte(i + 1)}, n)}
		want = append(want, list[i].Data...)
	}
	orders(list, 0, func(list []api.Part) { merges(t, want, api.OK, list...) })
	merges(t, nil, api.OK, api.Part{Kind: 1, Count: 2, Index: 1}, api.Part{Kind: 1, Count: 2})
}

// TestMergeSizes is of P11.4: numbers of parts that aren't the first one's Count.
func TestMergeSizes(t *testing.T) {
	merges(t, nil, api.ErrSize)
	merges(t, nil, api.ErrSize, []api.Part{}...)
	list := split(t, 7, some(1351))
	for i := range list {
		merges(t, nil, api.ErrSize, list[i])
		merges(t, nil, api.ErrSize, slices.Concat(list[i:], list[:i])[:2]...)
	}
	merges(t, nil, api.ErrSize, append(slices.Clone(list), list[0])...)
	merges(t, nil, api.ErrSize, api.Part{})
	merges(t, nil, api.ErrSize, api.Part{Kind: 1, Count: -1})
	merges(t, nil, api.ErrSize, api.Part{Kind: 1, Count: math.MinInt}, api.Part{Kind: 1, Count: 2})
	merges(t, nil, api.ErrSize, api.Part{Kind: 1, Count: 1}, api.Part{Kind: 1, Count: 2})
	// The number of parts comes ahead of what is wrong with them.
	merges(t, nil, api.ErrSize, api.Part{Kind: 9, Id: 1, Index: -5, Count: 3}, api.Part{Kind: 2}, api.Part{Id: 2}, api.Part{})
	merges(t, nil, api.ErrSize, make([]api.Part, 100)...)
}

// TestMergeForms is of P11.4: as many parts as there must be, one of them wrong.
func TestMergeForms(t *testing.T) {
	msg := some(1351)
	for i := range 4 {
		for name, spoil := range map[string]func(p *api.Part){
			"kind 0":           func(p *api.Part) { p.Kind = 0 },
			"Empty":            func(p *api.Part) { p.Kind = api.Empty },
			"Back":             func(p *api.Part) { p.Kind = api.Back },
			"kind 4":           func(p *api.Part) { p.Kind = 4 },
			"another Id":       func(p *api.Part) { p.Id++ },
			"Id 0":             func(p *api.Part) { p.Id = 0 },
			"the next Index":   func(p *api.Part) { p.Index = (p.Index + 1) % 4 },
			"the one before":   func(p *api.Part) { p.Index = (p.Index + 3) % 4 },
			"the Index 4":      func(p *api.Part) { p.Index = 4 },
			"a negative Index": func(p *api.Part) { p.Index = -1 },
			"too many Data":    func(p *api.Part) { p.Data = some(451) },
		} {
			list := split(t, 7, msg)
			spoil(&list[i])
			if got, e := frame.Merge(list...); len(got) != 0 || e != api.ErrForm {
				t.Errorf("Merge with %s of part %d = %v, %v", name, i, got, e)
			}
		}
		for _, count := range []int{-1, 0, 3, 5, 16, 17, math.MaxInt} {
			list := split(t, 7, msg)
			list[i].Count = count
			want := api.ErrForm
			if i == 0 {
				want = api.ErrSize
			}
			merges(t, nil, want, list...)
		}
	}
	second := split(t, 7, some(451))[1]
	merges(t, nil, api.ErrForm, second, second)
}

// TestMergeFirst is of P11.4: a first part that is wrong, but has the right Count.
func TestMergeFirst(t *testing.T) {
	for _, p := range []api.Part{
		{Count: 1},
		{Kind: 2, Count: 1},
		{Kind: 3, Count: 1, Data: some(3)},
		{Kind: 1, Count: 1, Index: 1},
		{Kind: 1, Count: 1, Data: some(451)},
		{Kind: 4, Count: 1},
	} {
		merges(t, nil, api.ErrForm, p)
	}
	// No message has 17 parts.
	list := make([]api.Part, 17)
	for i := range list {
		list[i] = api.Part{Kind: 1, Id: 1, Index: i, Count: 17}
	}
	merges(t, nil, api.ErrForm, list...)
}
