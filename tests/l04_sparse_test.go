package tests

import (
	"math"
	"slices"
	"testing"

	"loop.example/g00602/impl"
)

// slotCode, slotsCode, slotBy, oldLevels, pathBy, putBy and cutBy say over again, in the
// document's words, what chapter 4 asks: all 256 leaves and all that is above them, and a
// slot looked for from the first key to the last one. The sweeps hold the program against them.
func slotCode(s impl.Slot) int64 {
	if min(s.Key, s.Value) < 0 || s.Key >= 256 || s.Value >= 65521 {
		return impl.ErrRange
	}
	return impl.OK
}

func slotsCode(list []impl.Slot) int64 {
	if len(list) >= 13 {
		return impl.ErrMany
	}
	ahead := int64(-1)
	for _, s := range list {
		if slotCode(s) != impl.OK {
			return impl.ErrRange
		}
		if s.Key <= ahead {
			return impl.ErrForm
		}
		ahead = s.Key
	}
	return impl.OK
}

func slotBy(list []impl.Slot, key int64) (impl.Slot, bool) {
	for _, s := range list {
		if s.Key == key {
			return s, true
		}
	}
	return impl.Slot{}, false
}

func oldLevels(list []impl.Slot) [][]int64 {
	row := make([]int64, 256)
	for key := range row {
		row[key] = 13
		if s, there := slotBy(list, int64(key)); there {
			row[key] = sumBack(tagged(3, []int64{s.Key, s.Value}))
		}
	}
	levels := [][]int64{row}
	for len(row) > 1 {
		above := make([]int64, len(row)/2)
		for at := range above {
			above[at] = sumBack(tagged(2, row[2*at:2*at+2]))
		}
		row = above
		levels = append(levels, row)
	}
	return levels
}

func pathBy(levels [][]int64, key int64) []int64 {
	var path []int64
	place := int(key)
	for _, row := range levels[:8] {
		other := place + 1
		if place%2 == 1 {
			other = place - 1
		}
		path = append(path, row[other])
		place /= 2
	}
	return path
}

// putBy goes through all keys that there are, so that it has nothing to do with where a slot stands.
func putBy(list []impl.Slot, s impl.Slot) []impl.Slot {
	var out []impl.Slot
	for key := range int64(256) {
		if was, there := slotBy(list, key); key == s.Key {
			out = append(out, s)
		} else if there {
			out = append(out, was)
		}
	}
	return out
}

func cutBy(list []impl.Slot, from int64, to int64) []impl.Slot {
	var out []impl.Slot
	for key := from; key < to; key++ {
		if s, there := slotBy(list, key); there {
			out = append(out, s)
		}
	}
	return out
}

func sameSlots(got impl.SlotsResult, want []impl.Slot) bool {
	return got.Code == impl.OK && slices.Equal(got.Slots, want)
}

func noSlots(got impl.SlotsResult, code int64) bool {
	return got.Code == code && len(got.Slots) == 0
}

func sameInts(got impl.IntsResult, want []int64) bool {
	return got.Code == impl.OK && slices.Equal(got.List, want)
}

func noInts(got impl.IntsResult, code int64) bool {
	return got.Code == code && len(got.List) == 0
}

var noKeys = []int64{math.MinInt64, math.MinInt64 + 5, -4294967291, -65536, -256, -251, -2, -1, 256, 257, 261, 512, 65536, 65541, 2147483648, 4294967296, 4294967301, math.MaxInt64 - 1, math.MaxInt64}

// run: n slots, of keys that go on by step, from first on.
func run(n int, first int64, step int64) []impl.Slot {
	var list []impl.Slot
	for at := range int64(n) {
		list = append(list, impl.Slot{Key: first + at*step, Value: (first*977 + at*5461 + 3) % 65521})
	}
	return list
}

// someSlots: none, one, MaxSlots and between; at both ends, around the middle of each part,
// side by side and far from each other; and some that a plain rule throws.
func someSlots() [][]impl.Slot {
	lists := [][]impl.Slot{
		nil,
		{},
		{{Key: 0, Value: 0}},
		{{Key: 0, Value: 65520}},
		{{Key: 255, Value: 0}},
		{{Key: 255, Value: 65520}},
		{{Key: 5, Value: 100}, {Key: 200, Value: 7}},
		{{Key: 0, Value: 1}, {Key: 255, Value: 1}},
		{{Key: 0, Value: 1}, {Key: 1, Value: 2}, {Key: 128, Value: 3}, {Key: 255, Value: 4}},
		{{Key: 1}, {Key: 2}, {Key: 4}, {Key: 8}, {Key: 16}, {Key: 32}, {Key: 64}, {Key: 128}},
		{{Key: 0}, {Key: 1}, {Key: 3}, {Key: 7}, {Key: 15}, {Key: 31}, {Key: 63}, {Key: 127}, {Key: 255}},
	}
	for n := range 13 {
		lists = append(lists, run(n, 0, 1), run(n, int64(256-n), 1), run(n, 122, 1), run(n, 2, 23), run(n, 0, 2), run(n, 1, 2), run(n, 10, 16))
	}
	seed := int64(1)
	next := func(below int64) int64 {
		seed = (seed*48271 + 11) % 2147483647
		return seed / 8 % below
	}
	for range 60 {
		var list []impl.Slot
		for range next(13) {
			list = putBy(list, impl.Slot{Key: next(256), Value: next(65521)})
		}
		lists = append(lists, list)
	}
	return lists
}

// faultySlots: each kind of fault, alone and two at once, with its code.
func faultySlots() map[string]struct {
	list []impl.Slot
	code int64
} {
	full, many := run(12, 3, 20), run(13, 3, 19)
	with := func(list []impl.Slot, at int, s impl.Slot) []impl.Slot {
		out := slices.Clone(list)
		out[at] = s
		return out
	}
	return map[string]struct {
		list []impl.Slot
		code int64
	}{
		"key -1":                          {[]impl.Slot{{Key: -1}}, impl.ErrRange},
		"key 256":                         {[]impl.Slot{{Key: 256}}, impl.ErrRange},
		"value -1":                        {[]impl.Slot{{Key: 0, Value: -1}}, impl.ErrRange},
		"value above MaxSum":              {[]impl.Slot{{Key: 0, Value: 65521}}, impl.ErrRange},
		"key and value":                   {[]impl.Slot{{Key: 256, Value: -1}}, impl.ErrRange},
		"the last key of twelve":          {with(full, 11, impl.Slot{Key: 256}), impl.ErrRange},
		"the last value of twelve":        {with(full, 11, impl.Slot{Key: 223, Value: 65521}), impl.ErrRange},
		"a key twice":                     {[]impl.Slot{{Key: 5}, {Key: 5}}, impl.ErrForm},
		"a slot twice":                    {[]impl.Slot{{Key: 5, Value: 3}, {Key: 5, Value: 3}}, impl.ErrForm},
		"0 twice":                         {[]impl.Slot{{}, {}}, impl.ErrForm},
		"255 twice":                       {[]impl.Slot{{Key: 255}, {Key: 255}}, impl.ErrForm},
		"falling":                         {[]impl.Slot{{Key: 6}, {Key: 5}}, impl.ErrForm},
		"falling by value alone is right": {[]impl.Slot{{Key: 5, Value: 9}, {Key: 6, Value: 8}}, impl.OK},
		"the last ones of twelve fall":    {with(full, 11, impl.Slot{Key: 202}), impl.ErrForm},
		"the last ones of twelve alike":   {with(full, 11, full[10]), impl.ErrForm},
		"one falls below the one ahead, not below the first": {[]impl.Slot{{Key: 1}, {Key: 9}, {Key: 4}}, impl.ErrForm},
		"one falls, the next ones rise":                      {[]impl.Slot{{Key: 7}, {Key: 3}, {Key: 8}}, impl.ErrForm},
		"thirteen":                                           {many, impl.ErrMany},
		"fourteen":                                           {run(14, 0, 1), impl.ErrMany},
		"a thousand":                                         {make([]impl.Slot, 1000), impl.ErrMany},
		// Two at once: how many there are, then slot by slot the range, then whether it rises.
		"thirteen, a key out of bounds":       {with(many, 0, impl.Slot{Key: -1}), impl.ErrMany},
		"thirteen, all the same":              {make([]impl.Slot, 13), impl.ErrMany},
		"a key below 0 does not rise":         {[]impl.Slot{{Key: 5}, {Key: -1}}, impl.ErrRange},
		"a key twice, a value out of bounds":  {[]impl.Slot{{Key: 5}, {Key: 5, Value: 65521}}, impl.ErrRange},
		"falls, then out of bounds":           {[]impl.Slot{{Key: 5}, {Key: 4}, {Key: 256}}, impl.ErrForm},
		"out of bounds, then falls":           {[]impl.Slot{{Key: 256}, {Key: 5}, {Key: 4}}, impl.ErrRange},
		"a value out of bounds, then a twice": {[]impl.Slot{{Key: 1}, {Key: 2, Value: -1}, {Key: 2}}, impl.ErrRange},
		"twice, then a value out of bounds":   {[]impl.Slot{{Key: 1}, {Key: 1}, {Key: 2, Value: -1}}, impl.ErrForm},
		"what does not rise is no measure":    {[]impl.Slot{{Key: 9}, {Key: 2}, {Key: 3, Value: -1}}, impl.ErrForm},
	}
}

// seeSlotsCode: each function that asks for slots has that code, ahead of its own ones, and nothing beside it.
func seeSlotsCode(t *testing.T, list []impl.Slot, code int64) {
	t.Helper()
	if got := impl.SlotsFault(list); got != code {
		t.Fatalf("SlotsFault(%v) = %d, not %d", list, got, code)
	}
	if code == impl.OK {
		return
	}
	none := impl.IntResult{Code: code}
	if impl.OldRoot(list) != none {
		t.Fatalf("OldRoot(%v) = %#v", list, impl.OldRoot(list))
	}
	for _, key := range []int64{-1, 0, 5, 255, 256} {
		if got := impl.OldPath(list, key); !noInts(got, code) {
			t.Fatalf("OldPath(%v, %d) = %#v", list, key, got)
		}
		if got := impl.FindSlot(list, key); got != none {
			t.Fatalf("FindSlot(%v, %d) = %#v", list, key, got)
		}
		for _, other := range []int64{-1, 0, 5, 256, 65521} {
			if got := impl.PutSlot(list, impl.Slot{Key: key, Value: other}); !noSlots(got, code) {
				t.Fatalf("PutSlot(%v, %d, %d) = %#v", list, key, other, got)
			}
			if got := impl.CutSlots(list, key, other); !noSlots(got, code) {
				t.Fatalf("CutSlots(%v, %d, %d) = %#v", list, key, other, got)
			}
		}
	}
}

func TestEmptySum(t *testing.T) {
	if impl.Depth != 8 || impl.MaxSlots != 12 {
		t.Error("Depth, MaxSlots")
	}
	for level, sum := range []int64{13, 62891, 19587, 3824, 50636, 30947, 63137, 22327, 35702} {
		if got := impl.EmptySum(int64(level)); got != (impl.IntResult{Value: sum}) {
			t.Errorf("EmptySum(%d) = %#v, not %d", level, got, sum)
		}
	}
	for level := range int64(8) {
		below := impl.EmptySum(level).Value
		if got := impl.EmptySum(level + 1).Value; got != sumBack(tagged(2, []int64{below, below})) {
			t.Errorf("EmptySum(%d) = %d is not of the level below", level+1, got)
		}
	}
	for _, level := range []int64{math.MinInt64, -4294967288, -256, -9, -8, -2, -1, 9, 10, 16, 64, 255, 256, 257, 264, 4294967296, 4294967304, math.MaxInt64} {
		if got := impl.EmptySum(level); got != (impl.IntResult{Code: impl.ErrRange}) {
			t.Errorf("EmptySum(%d) = %#v", level, got)
		}
	}
}

func TestOldTreeExamples(t *testing.T) {
	trees := []struct {
		list []impl.Slot
		root int64
		key  int64
		path []int64
	}{
		{nil, 35702, 4, []int64{13, 62891, 19587, 3824, 50636, 30947, 63137, 22327}},
		{[]impl.Slot{{}}, 5617, 4, []int64{13, 62891, 28354, 3824, 50636, 30947, 63137, 22327}},
		{[]impl.Slot{{}}, 5617, 0, []int64{13, 62891, 19587, 3824, 50636, 30947, 63137, 22327}},
		{[]impl.Slot{{}}, 5617, 255, []int64{13, 62891, 19587, 3824, 50636, 30947, 63137, 64253}},
		{[]impl.Slot{{Key: 255, Value: 65520}}, 52933, 0, []int64{13, 62891, 19587, 3824, 50636, 30947, 63137, 53949}},
		{[]impl.Slot{{Key: 5, Value: 100}, {Key: 200, Value: 7}}, 33424, 4, []int64{1835, 62891, 19587, 3824, 50636, 30947, 63137, 16498}},
		{[]impl.Slot{{Key: 5, Value: 100}, {Key: 200, Value: 7}}, 33424, 5, []int64{13, 62891, 19587, 3824, 50636, 30947, 63137, 16498}},
		{[]impl.Slot{{Key: 5, Value: 100}, {Key: 200, Value: 7}}, 33424, 255, []int64{13, 62891, 19587, 3824, 50636, 44664, 63137, 57328}},
		{[]impl.Slot{{Key: 0, Value: 1}, {Key: 1, Value: 2}, {Key: 128, Value: 3}, {Key: 255, Value: 4}}, 41326, 0, []int64{55495, 62891, 19587, 3824, 50636, 30947, 63137, 835}},
		{[]impl.Slot{{Key: 0, Value: 1}, {Key: 1, Value: 2}, {Key: 128, Value: 3}, {Key: 255, Value: 4}}, 41326, 255, []int64{13, 62891, 19587, 3824, 50636, 30947, 220, 25731}},
	}
	for _, x := range trees {
		if got := impl.OldRoot(x.list); got != (impl.IntResult{Value: x.root}) {
			t.Errorf("OldRoot(%v) = %#v, not %d", x.list, got, x.root)
		}
		if got := impl.OldPath(x.list, x.key); !sameInts(got, x.path) {
			t.Errorf("OldPath(%v, %d) = %#v, not %v", x.list, x.key, got, x.path)
		}
	}
}

func TestSlotsFaultCodes(t *testing.T) {
	for name, x := range faultySlots() {
		if slotsCode(x.list) != x.code {
			t.Fatalf("%s: the words said over again tell %d, not %d", name, slotsCode(x.list), x.code)
		}
		seeSlotsCode(t, x.list, x.code)
	}
	for _, list := range someSlots() {
		seeSlotsCode(t, list, impl.OK)
	}
}

// Every three slots of the edges, so that each fault stands beside each other one, in each order.
func TestSlotsFaultEdges(t *testing.T) {
	var edges []impl.Slot
	for _, key := range []int64{math.MinInt64, -1, 0, 1, 254, 255, 256, math.MaxInt64} {
		for _, value := range []int64{-1, 0, 65520, 65521} {
			edges = append(edges, impl.Slot{Key: key, Value: value})
		}
	}
	good := 0
	for _, a := range edges {
		seeSlotsCode(t, []impl.Slot{a}, slotCode(a))
		for _, b := range edges {
			two := []impl.Slot{a, b}
			seeSlotsCode(t, two, slotsCode(two))
			for _, c := range edges {
				three := []impl.Slot{a, b, c}
				if got := impl.SlotsFault(three); got != slotsCode(three) {
					t.Fatalf("SlotsFault(%v) = %d", three, got)
				}
				if slotsCode(three) == impl.OK {
					good++
				}
			}
		}
	}
	if good != 4*2*2*2 {
		t.Errorf("%d are slots, not 32", good)
	}
	for _, n := range noKeys {
		seeSlotsCode(t, []impl.Slot{{Key: n}}, impl.ErrRange)
	}
	for _, n := range noSums {
		seeSlotsCode(t, []impl.Slot{{Value: n}}, impl.ErrRange)
	}
}

// One slot of twelve that is not so, at each place.
func TestSlotsFaultPlaces(t *testing.T) {
	for n := 1; n <= 14; n++ {
		for at := range n {
			for _, s := range []impl.Slot{{Key: -1}, {Key: 256}, {Key: 0}, {Key: 100}, {Key: 255}, {Key: int64(at) * 17, Value: 65521}} {
				list := run(n, 1, 17)
				list[at] = s
				seeSlotsCode(t, list, slotsCode(list))
			}
			if at > 0 {
				list := run(n, 1, 17)
				list[at].Key = list[at-1].Key
				seeSlotsCode(t, list, slotsCode(list))
			}
		}
	}
}

// The old tree of each list, held against all 256 leaves, and the path of each key that there is.
func TestOldTreeWhole(t *testing.T) {
	for _, list := range someSlots() {
		levels := oldLevels(list)
		if got := impl.OldRoot(list); got != (impl.IntResult{Value: levels[8][0]}) {
			t.Fatalf("OldRoot(%v) = %#v, not %d", list, got, levels[8][0])
		}
		for key := range int64(256) {
			if got, want := impl.OldPath(list, key), pathBy(levels, key); !sameInts(got, want) {
				t.Fatalf("OldPath(%v, %d) = %#v, not %v", list, key, got, want)
			}
		}
	}
}

// One slot at each key, and each value at one key.
func TestOldTreeEverySlot(t *testing.T) {
	climb := func(s impl.Slot) int64 {
		sum, place := sumBack(tagged(3, []int64{s.Key, s.Value})), s.Key
		for level := range int64(8) {
			sides := []int64{sum, impl.EmptySum(level).Value}
			if place%2 == 1 {
				slices.Reverse(sides)
			}
			sum, place = sumBack(tagged(2, sides)), place/2
		}
		return sum
	}
	see := func(s impl.Slot) {
		if got := impl.OldRoot([]impl.Slot{s}); got != (impl.IntResult{Value: climb(s)}) {
			t.Fatalf("OldRoot(%v) = %#v, not %d", s, got, climb(s))
		}
	}
	for key := range int64(256) {
		for _, value := range sumEdges {
			see(impl.Slot{Key: key, Value: value})
		}
	}
	for value := range int64(65521) {
		see(impl.Slot{Key: 77, Value: value})
	}
}

func TestOldPathWrong(t *testing.T) {
	for _, list := range someSlots() {
		for _, key := range noKeys {
			if got := impl.OldPath(list, key); !noInts(got, impl.ErrRange) {
				t.Fatalf("OldPath(%v, %d) = %#v", list, key, got)
			}
		}
	}
}

func TestFindSlot(t *testing.T) {
	list := []impl.Slot{{Key: 0, Value: 9}, {Key: 5, Value: 0}, {Key: 255, Value: 65520}}
	for key, value := range map[int64]int64{0: 9, 5: 0, 255: 65520} {
		if got := impl.FindSlot(list, key); got != (impl.IntResult{Value: value}) {
			t.Errorf("FindSlot of %d = %#v, not %d", key, got, value)
		}
	}
	for _, list := range someSlots() {
		for key := int64(-3); key < 260; key++ {
			want := impl.IntResult{Code: impl.ErrNone}
			if s, there := slotBy(list, key); there {
				want = impl.IntResult{Value: s.Value}
			}
			if got := impl.FindSlot(list, key); got != want {
				t.Fatalf("FindSlot(%v, %d) = %#v, not %#v", list, key, got, want)
			}
		}
		// No slot has such a key: chapter 4 names no bounds of it here.
		for _, key := range noKeys {
			if got := impl.FindSlot(list, key); got != (impl.IntResult{Code: impl.ErrNone}) {
				t.Fatalf("FindSlot(%v, %d) = %#v", list, key, got)
			}
		}
	}
}

func TestPutSlotExamples(t *testing.T) {
	two := []impl.Slot{{Key: 5, Value: 100}, {Key: 200, Value: 7}}
	puts := []struct {
		list []impl.Slot
		slot impl.Slot
		want []impl.Slot
	}{
		{nil, impl.Slot{}, []impl.Slot{{}}},
		{nil, impl.Slot{Key: 255, Value: 65520}, []impl.Slot{{Key: 255, Value: 65520}}},
		{two, impl.Slot{Key: 0, Value: 1}, []impl.Slot{{Key: 0, Value: 1}, {Key: 5, Value: 100}, {Key: 200, Value: 7}}},
		{two, impl.Slot{Key: 9, Value: 1}, []impl.Slot{{Key: 5, Value: 100}, {Key: 9, Value: 1}, {Key: 200, Value: 7}}},
		{two, impl.Slot{Key: 255, Value: 1}, []impl.Slot{{Key: 5, Value: 100}, {Key: 200, Value: 7}, {Key: 255, Value: 1}}},
		{two, impl.Slot{Key: 5, Value: 3}, []impl.Slot{{Key: 5, Value: 3}, {Key: 200, Value: 7}}},
		{two, impl.Slot{Key: 200, Value: 0}, []impl.Slot{{Key: 5, Value: 100}, {Key: 200, Value: 0}}},
		{two, impl.Slot{Key: 200, Value: 7}, two},
	}
	for _, x := range puts {
		if got := impl.PutSlot(x.list, x.slot); !sameSlots(got, x.want) {
			t.Errorf("PutSlot(%v, %v) = %#v, not %v", x.list, x.slot, got, x.want)
		}
	}
}

// Full slots take a slot in the place of one of theirs alone, at each place; one less than full takes all.
func TestPutSlotFull(t *testing.T) {
	for _, full := range [][]impl.Slot{run(12, 0, 1), run(12, 244, 1), run(12, 3, 20), run(12, 122, 1)} {
		kept := 0
		for key := range int64(256) {
			s := impl.Slot{Key: key, Value: 65520 - key}
			got := impl.PutSlot(full, s)
			if _, there := slotBy(full, key); !there {
				if !noSlots(got, impl.ErrFull) {
					t.Fatalf("PutSlot(%v, %v) = %#v", full, s, got)
				}
			} else if kept++; !sameSlots(got, putBy(full, s)) || len(got.Slots) != 12 {
				t.Fatalf("PutSlot(%v, %v) = %#v", full, s, got)
			}
			for at := range full {
				less := slices.Delete(slices.Clone(full), at, at+1)
				if got := impl.PutSlot(less, s); !sameSlots(got, putBy(less, s)) {
					t.Fatalf("PutSlot(%v, %v) = %#v", less, s, got)
				}
			}
		}
		if kept != 12 {
			t.Errorf("%d keys of %v are put anew, not 12", kept, full)
		}
	}
}

func TestPutSlotWrong(t *testing.T) {
	for _, list := range someSlots() {
		wrong := []impl.Slot{{Key: -1, Value: -1}, {Key: 256, Value: 65521}}
		for _, n := range noKeys {
			wrong = append(wrong, impl.Slot{Key: n, Value: 3})
		}
		for _, n := range noSums {
			// Of a key that is there, and of one that is not: what is out of bounds comes ahead of what is full.
			wrong = append(wrong, impl.Slot{Key: 0, Value: n}, impl.Slot{Key: 101, Value: n}, impl.Slot{Key: 255, Value: n})
		}
		for _, s := range wrong {
			if got := impl.PutSlot(list, s); !noSlots(got, impl.ErrRange) {
				t.Fatalf("PutSlot(%v, %v) = %#v", list, s, got)
			}
		}
	}
}

// P5: what was put is found, and all else is as it was; the tree is that of the slots as they are then.
func TestP5Put(t *testing.T) {
	for _, list := range someSlots() {
		for key := range int64(256) {
			s := impl.Slot{Key: key, Value: (key*251 + 17) % 65521}
			got := impl.PutSlot(list, s)
			if got.Code == impl.ErrFull {
				continue
			}
			if !sameSlots(got, putBy(list, s)) || impl.SlotsFault(got.Slots) != impl.OK {
				t.Fatalf("PutSlot(%v, %v) = %#v", list, s, got)
			}
			if found := impl.FindSlot(got.Slots, key); found != (impl.IntResult{Value: s.Value}) {
				t.Fatalf("FindSlot(PutSlot(%v, %v)) = %#v", list, s, found)
			}
			for other := range int64(256) {
				if was, is := impl.FindSlot(list, other), impl.FindSlot(got.Slots, other); other != key && was != is {
					t.Fatalf("PutSlot(%v, %v): %d was %#v, is %#v", list, s, other, was, is)
				}
			}
			if again := impl.PutSlot(got.Slots, s); !sameSlots(again, got.Slots) {
				t.Fatalf("PutSlot of %v twice = %#v", s, again)
			}
			if !slices.Equal(impl.OldPath(got.Slots, key).List, impl.OldPath(list, key).List) {
				t.Fatalf("PutSlot(%v, %v) turns the path of its own key", list, s)
			}
		}
	}
}

// P5: in whatever order they are put, the slots are the same, and each one is put anew over what was.
func TestP5PutOrder(t *testing.T) {
	for _, list := range someSlots() {
		for _, step := range []int{1, 5, 7, 11} {
			if step > 1 && len(list)%step == 0 {
				continue // such steps would leave some out
			}
			var got impl.SlotsResult
			for _, value := range []int64{1, 65520, -1} {
				for at := range list {
					s := list[at*step%len(list)]
					if value >= 0 {
						s.Value = value
					}
					got = impl.PutSlot(got.Slots, s)
				}
			}
			if !sameSlots(got, list) {
				t.Fatalf("%v, put by %d: %#v", list, step, got)
			}
		}
	}
}

func TestCutSlotsExamples(t *testing.T) {
	list := []impl.Slot{{Key: 0, Value: 1}, {Key: 5, Value: 100}, {Key: 200, Value: 7}, {Key: 255, Value: 2}}
	cuts := []struct{ from, to, first, end int64 }{
		{0, 256, 0, 4}, {0, 0, 0, 0}, {256, 256, 0, 0}, {0, 255, 0, 3}, {255, 256, 3, 4}, {255, 255, 0, 0},
		{0, 1, 0, 1}, {1, 256, 1, 4}, {5, 200, 1, 2}, {5, 201, 1, 3}, {6, 200, 0, 0}, {4, 6, 1, 2}, {5, 5, 0, 0}, {201, 255, 0, 0},
	}
	for _, x := range cuts {
		if got := impl.CutSlots(list, x.from, x.to); !sameSlots(got, list[x.first:x.end]) {
			t.Errorf("CutSlots from %d, to %d = %#v", x.from, x.to, got)
		}
	}
	for _, x := range [][2]int64{{-1, 0}, {-1, 256}, {0, -1}, {-1, -1}, {0, 257}, {256, 257}, {257, 257}, {257, 256}, {257, 300}, {9, 8}, {1, 0}, {256, 255}, {256, 0}} {
		if got := impl.CutSlots(list, x[0], x[1]); !noSlots(got, impl.ErrRange) {
			t.Errorf("CutSlots from %d, to %d = %#v", x[0], x[1], got)
		}
	}
}

// Every from beside every to, of some slots, and beyond.
func TestCutSlotsSweep(t *testing.T) {
	for _, list := range [][]impl.Slot{nil, {{Key: 0}}, {{Key: 255}}, run(3, 5, 100), run(12, 0, 1), run(12, 3, 22), run(12, 244, 1)} {
		for from := int64(-3); from < 260; from++ {
			for to := int64(-3); to < 260; to++ {
				got := impl.CutSlots(list, from, to)
				if from < 0 || to > 256 || from > to {
					if !noSlots(got, impl.ErrRange) {
						t.Fatalf("CutSlots(%v, %d, %d) = %#v", list, from, to, got)
					}
					continue
				}
				want := slices.DeleteFunc(slices.Clone(list), func(s impl.Slot) bool { return s.Key < from || s.Key >= to })
				if !sameSlots(got, want) {
					t.Fatalf("CutSlots(%v, %d, %d) = %#v, not %v", list, from, to, got, want)
				}
			}
		}
	}
	far := []int64{math.MinInt64, -4294967296, -1, 257, 4294967296, math.MaxInt64}
	for _, a := range far {
		for _, b := range []int64{0, 7, 256} {
			if got := impl.CutSlots(run(5, 1, 1), a, b); !noSlots(got, impl.ErrRange) {
				t.Errorf("CutSlots from %d, to %d = %#v", a, b, got)
			}
			if got := impl.CutSlots(run(5, 1, 1), b, a); !noSlots(got, impl.ErrRange) {
				t.Errorf("CutSlots from %d, to %d = %#v", b, a, got)
			}
		}
		for _, b := range far {
			if got := impl.CutSlots(run(5, 1, 1), a, b); !noSlots(got, impl.ErrRange) {
				t.Errorf("CutSlots from %d, to %d = %#v", a, b, got)
			}
		}
	}
}

// P5: what is cut in two parts is all of it, wherever it is cut; and so is a part of it.
func TestP5Cut(t *testing.T) {
	ends := []int64{0, 1, 5, 6, 100, 127, 128, 129, 200, 254, 255, 256}
	for _, list := range someSlots() {
		for at := range int64(257) {
			low, high := impl.CutSlots(list, 0, at), impl.CutSlots(list, at, 256)
			if low.Code != impl.OK || high.Code != impl.OK || !slices.Equal(slices.Concat(low.Slots, high.Slots), list) {
				t.Fatalf("%v cut at %d: %#v, %#v", list, at, low, high)
			}
			if !sameSlots(low, cutBy(list, 0, at)) || impl.SlotsFault(low.Slots) != impl.OK || impl.SlotsFault(high.Slots) != impl.OK {
				t.Fatalf("%v cut at %d: %#v, %#v", list, at, low, high)
			}
			for _, from := range ends {
				for _, to := range ends {
					if from > at || at > to {
						continue
					}
					part := impl.CutSlots(list, from, to)
					both := slices.Concat(impl.CutSlots(list, from, at).Slots, impl.CutSlots(list, at, to).Slots)
					if !sameSlots(part, both) {
						t.Fatalf("%v from %d, to %d, cut at %d: %v, not %v", list, from, to, at, both, part)
					}
				}
			}
		}
	}
}

// askSlots: all that chapter 4 answers of these arguments, laid in one list, with a mark between.
func askSlots(list []impl.Slot, s impl.Slot, from int64, to int64) []int64 {
	root, found, path := impl.OldRoot(list), impl.FindSlot(list, s.Key), impl.OldPath(list, s.Key)
	put, cut := impl.PutSlot(list, s), impl.CutSlots(list, from, to)
	empty := impl.EmptySum(from)
	out := []int64{impl.SlotsFault(list), root.Code, root.Value, found.Code, found.Value, empty.Code, empty.Value, put.Code, cut.Code, path.Code}
	out = append(append(out, -7), path.List...)
	for _, slots := range [][]impl.Slot{put.Slots, cut.Slots} {
		out = append(out, -7)
		for _, x := range slots {
			out = append(out, x.Key, x.Value)
		}
	}
	return out
}

var someAsks = []struct {
	slot     impl.Slot
	from, to int64
}{
	{impl.Slot{Key: 0, Value: 0}, 0, 256},
	{impl.Slot{Key: 5, Value: 65520}, 5, 200},
	{impl.Slot{Key: 255, Value: 3}, 255, 256},
	{impl.Slot{Key: 128, Value: 9}, 3, 3},
	{impl.Slot{Key: 124, Value: 10}, 8, 9},
	{impl.Slot{Key: 256, Value: 1}, 9, 8},
	{impl.Slot{Key: 3, Value: -1}, -1, 0},
}

// P1: what is handed in is as it was, with the room behind it; and that room is not looked at.
func TestP1SlotArgumentsStay(t *testing.T) {
	lists := someSlots()
	for _, x := range faultySlots() {
		lists = append(lists, x.list)
	}
	behind := []impl.Slot{{Key: 7, Value: 70}, {Key: 255, Value: 80}, {Key: -9, Value: -90}}
	for _, list := range lists {
		room := slices.Concat(behind, list, behind)
		was := slices.Clone(room)
		for _, x := range someAsks {
			given := room[3 : 3+len(list)]
			if got, want := askSlots(given, x.slot, x.from, x.to), askSlots(list, x.slot, x.from, x.to); !slices.Equal(got, want) {
				t.Fatalf("%v with room behind: %v, not %v", list, got, want)
			}
			if !slices.Equal(room, was) {
				t.Fatalf("%v with %v turned its argument: %v", list, x, room)
			}
		}
	}
}

// P1: what comes back shares no memory with what was handed in, nor with another answer.
func TestP1SlotAnswersAreNew(t *testing.T) {
	spoil := func(slots []impl.Slot) {
		whole := slots[:cap(slots)]
		for at := range whole {
			whole[at] = impl.Slot{Key: -5, Value: -5}
		}
	}
	for _, list := range someSlots() {
		given := slices.Clone(list)
		for _, x := range someAsks[:5] {
			first := askSlots(given, x.slot, x.from, x.to)
			put, cut, whole := impl.PutSlot(given, x.slot), impl.CutSlots(given, x.from, x.to), impl.CutSlots(given, 0, 256)
			path, same := impl.OldPath(given, x.slot.Key), impl.OldPath(given, x.slot.Key)
			spoil(put.Slots)
			spoil(cut.Slots)
			if !slices.Equal(given, list) || !sameSlots(whole, list) {
				t.Fatalf("PutSlot or CutSlots of %v shares: %v, %v", list, given, whole)
			}
			spoil(whole.Slots)
			for at := range path.List[:cap(path.List)] {
				path.List[:cap(path.List)][at] = -5
			}
			if !slices.Equal(given, list) || !sameInts(same, pathBy(oldLevels(list), x.slot.Key)) {
				t.Fatalf("an answer of %v shares: %v, %v", list, given, same)
			}
			if again := askSlots(given, x.slot, x.from, x.to); !slices.Equal(again, first) {
				t.Fatalf("%v: %v, then %v", list, first, again)
			}
		}
		// And the other way round: what is handed in may be turned behind the call.
		put, cut := impl.PutSlot(given, impl.Slot{Key: 0, Value: 1}), impl.CutSlots(given, 0, 256)
		spoil(given)
		if !sameSlots(cut, list) || put.Code == impl.OK && !sameSlots(put, putBy(list, impl.Slot{Key: 0, Value: 1})) {
			t.Fatalf("answers of %v turned with it: %v, %v", list, put, cut)
		}
	}
}

// P1: nil and an empty list are the same value.
func TestP1NoSlots(t *testing.T) {
	none := make([]impl.Slot, 0, 5)
	for _, x := range someAsks {
		if got, want := askSlots(none, x.slot, x.from, x.to), askSlots(nil, x.slot, x.from, x.to); !slices.Equal(got, want) {
			t.Errorf("%v of an empty list: %v, not %v", x, got, want)
		}
	}
}

func TestP1SlotsHangOnArguments(t *testing.T) {
	lists := someSlots()
	for _, x := range faultySlots() {
		lists = append(lists, x.list)
	}
	var first [][]int64
	for _, list := range lists {
		for _, x := range someAsks {
			first = append(first, askSlots(list, x.slot, x.from, x.to))
		}
	}
	// The other way round the second time, so that something kept would show.
	for at := len(first) - 1; at >= 0; at-- {
		list, x := lists[at/len(someAsks)], someAsks[at%len(someAsks)]
		if is := askSlots(list, x.slot, x.from, x.to); !slices.Equal(is, first[at]) {
			t.Fatalf("%v, %v: %v, then %v", list, x, first[at], is)
		}
	}
}
