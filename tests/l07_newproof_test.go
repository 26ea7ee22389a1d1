package tests

import (
	"math"
	"slices"
	"testing"

	"loop.example/g00602/impl"
)

// trailCode, climbNewBy and takenBy say over again, in the document's words, what chapter 7 asks:
// each code by a walk of its own, and pieces as they are summed; the sweeps hold the program against them.
func trailCode(x impl.Trail) int64 {
	zero := x.Leaf.Key == 0 && x.Leaf.Value == 0 && len(x.Forks) == 0
	switch {
	case !x.Any && !zero:
		return impl.ErrForm
	case slotCode(x.Leaf) != impl.OK:
		return impl.ErrRange
	case len(x.Forks) >= 9:
		return impl.ErrMany
	}
	// The first fork that is not so at all, and the first one that does not rise: the nearer one is told.
	wrong := slices.IndexFunc(x.Forks, func(f impl.Fork) bool {
		return f.Bit < 0 || f.Bit > 7 || f.Other < 0 || f.Other > 65520
	})
	falls := -1
	for at := len(x.Forks) - 1; at > 0; at-- {
		if x.Forks[at].Bit <= x.Forks[at-1].Bit {
			falls = at
		}
	}
	switch {
	case wrong < 0 && falls < 0:
		return impl.OK
	case falls < 0 || wrong >= 0 && wrong <= falls:
		return impl.ErrRange
	}
	return impl.ErrForm
}

func climbNewBy(key int64, x impl.Trail) impl.IntResult {
	if key < 0 || key >= 256 {
		return impl.IntResult{Code: impl.ErrRange}
	}
	if code := trailCode(x); code != impl.OK {
		return impl.IntResult{Code: code}
	}
	piece := []byte{9}
	if x.Any {
		piece = tagged(4, []int64{x.Leaf.Key, x.Leaf.Value})
	}
	for _, fork := range x.Forks {
		if bitBy(key, fork.Bit) == 0 {
			piece = tagged(5, []int64{fork.Bit, sumBack(piece), fork.Other})
		} else {
			piece = tagged(5, []int64{fork.Bit, fork.Other, sumBack(piece)})
		}
	}
	return impl.IntResult{Value: sumBack(piece)}
}

func takenBy(key int64, there bool, value int64, x impl.Trail, root int64) bool {
	if (climbNewBy(key, x) != impl.IntResult{Value: root}) {
		return false
	}
	mine := x.Any && x.Leaf.Key == key
	if there {
		return mine && x.Leaf.Value == value
	}
	return !mine && value == 0
}

func anyTrail(leaf impl.Slot, numbers ...int64) impl.Trail {
	return impl.Trail{Any: true, Leaf: leaf, Forks: forksOf(numbers...)}
}

// turned: the trail with something else in its memory, never in that of x.
func turned(x impl.Trail, turn func(x *impl.Trail)) impl.Trail {
	x.Forks = slices.Clone(x.Forks)
	turn(&x)
	return x
}

var fullTrail = anyTrail(impl.Slot{Key: 77, Value: 1000}, 0, 100, 1, 200, 2, 300, 3, 400, 4, 500, 5, 600, 6, 700, 7, 800)

// seeTrail: the fault, the size and the climb of a trail, from each of these keys.
func seeTrail(t *testing.T, x impl.Trail, keys ...int64) {
	t.Helper()
	code := trailCode(x)
	if got := impl.TrailFault(x); got != code {
		t.Fatalf("TrailFault(%v) = %d, not %d", x, got, code)
	}
	size := impl.IntResult{Code: code}
	if code == impl.OK {
		size.Value = 1
		if x.Any {
			size.Value = 5 + 3*int64(len(x.Forks))
		}
	}
	if got := impl.TrailSize(x); got != size {
		t.Fatalf("TrailSize(%v) = %#v, not %#v", x, got, size)
	}
	for _, key := range keys {
		if got, want := impl.ClimbNew(key, x), climbNewBy(key, x); got != want {
			t.Fatalf("ClimbNew(%d, %v) = %#v, not %#v", key, x, got, want)
		}
	}
}

// seeTaken: what is taken of a key by a trail, with the roots that are near, and the values that are.
func seeTaken(t *testing.T, key int64, x impl.Trail) {
	t.Helper()
	climbed := climbNewBy(key, x)
	for _, value := range []int64{0, 1, -1, x.Leaf.Value, (x.Leaf.Value + 1) % 65521, -x.Leaf.Value, 65520, 65521, math.MinInt64} {
		for _, there := range []bool{false, true} {
			for _, root := range []int64{climbed.Value, climbed.Value + 1, climbed.Value - 1, climbed.Code, 0, -1, 65520, 65521} {
				if got, want := impl.AcceptNew(key, there, value, x, root), takenBy(key, there, value, x, root); got != want {
					t.Fatalf("AcceptNew(%d, %v, %d, %v, %d) = %v", key, there, value, x, root, got)
				}
			}
		}
	}
}

// oneTurn: a trail without a fault, each part of it turned alone, so that it has none either, and so that it is another one.
func oneTurn() [][2]impl.Trail {
	middle := anyTrail(impl.Slot{Key: 5, Value: 30}, 1, 40, 3, 50, 5, 60)
	none := impl.Trail{}
	pairs := [][2]impl.Trail{
		{none, impl.Trail{Any: true}},
		{middle, turned(middle, func(x *impl.Trail) { x.Leaf.Key = 6 })},
		{middle, turned(middle, func(x *impl.Trail) { x.Leaf.Value = 31 })},
		{middle, turned(middle, func(x *impl.Trail) { x.Forks = x.Forks[:2] })},
		{middle, turned(middle, func(x *impl.Trail) { x.Forks = x.Forks[1:] })},
		{middle, turned(middle, func(x *impl.Trail) { x.Forks = nil })},
		{middle, turned(middle, func(x *impl.Trail) { x.Forks = slices.Delete(x.Forks, 1, 2) })},
		{middle, turned(middle, func(x *impl.Trail) { x.Forks = append(x.Forks, impl.Fork{Bit: 7}) })},
		{middle, turned(middle, func(x *impl.Trail) { x.Forks = slices.Insert(x.Forks, 0, impl.Fork{}) })},
	}
	for at := range 3 {
		pairs = append(pairs,
			[2]impl.Trail{middle, turned(middle, func(x *impl.Trail) { x.Forks[at].Bit++ })},
			[2]impl.Trail{middle, turned(middle, func(x *impl.Trail) { x.Forks[at].Other++ })})
	}
	for at := range 8 {
		pairs = append(pairs,
			[2]impl.Trail{fullTrail, turned(fullTrail, func(x *impl.Trail) { x.Forks[at].Other = 65520 })},
			[2]impl.Trail{fullTrail, turned(fullTrail, func(x *impl.Trail) { x.Forks = slices.Delete(x.Forks, at, at+1) })})
	}
	return pairs
}

// faultyTrails: each code, alone and several at once, so that their order shows.
func faultyTrails() map[string]struct {
	trail impl.Trail
	code  int64
} {
	leaf := impl.Slot{Key: 5, Value: 30}
	nine := turned(fullTrail, func(x *impl.Trail) { x.Forks = append(x.Forks, impl.Fork{Bit: 7}) })
	return map[string]struct {
		trail impl.Trail
		code  int64
	}{
		"nothing":                              {impl.Trail{}, impl.OK},
		"nothing, with an empty list":          {impl.Trail{Forks: []impl.Fork{}}, impl.OK},
		"Any, and all else zero":               {impl.Trail{Any: true}, impl.OK},
		"no forks":                             {anyTrail(leaf), impl.OK},
		"Depth forks":                          {fullTrail, impl.OK},
		"not Any, a key":                       {impl.Trail{Leaf: impl.Slot{Key: 1}}, impl.ErrForm},
		"not Any, a value":                     {impl.Trail{Leaf: impl.Slot{Value: 1}}, impl.ErrForm},
		"not Any, a fork":                      {impl.Trail{Forks: forksOf(3, 4)}, impl.ErrForm},
		"not Any, a fork that is zero":         {impl.Trail{Forks: []impl.Fork{{}}}, impl.ErrForm},
		"not Any, all else of a trail":         {impl.Trail{Leaf: leaf, Forks: forksOf(0, 7)}, impl.ErrForm},
		"the key -1":                           {anyTrail(impl.Slot{Key: -1}), impl.ErrRange},
		"the key 255":                          {anyTrail(impl.Slot{Key: 255}), impl.OK},
		"the key 256":                          {anyTrail(impl.Slot{Key: 256}), impl.ErrRange},
		"the value -1":                         {anyTrail(impl.Slot{Value: -1}), impl.ErrRange},
		"the value MaxSum":                     {anyTrail(impl.Slot{Value: 65520}), impl.OK},
		"a value above MaxSum":                 {anyTrail(impl.Slot{Value: 65521}), impl.ErrRange},
		"nine forks":                           {nine, impl.ErrMany},
		"a thousand forks":                     {impl.Trail{Any: true, Forks: make([]impl.Fork, 1000)}, impl.ErrMany},
		"the bit -1":                           {anyTrail(leaf, -1, 0), impl.ErrRange},
		"the bit 0":                            {anyTrail(leaf, 0, 0), impl.OK},
		"the bit 7":                            {anyTrail(leaf, 7, 0), impl.OK},
		"the bit 8":                            {anyTrail(leaf, 8, 0), impl.ErrRange},
		"an Other of -1":                       {anyTrail(leaf, 3, -1), impl.ErrRange},
		"an Other of MaxSum":                   {anyTrail(leaf, 3, 65520), impl.OK},
		"an Other above MaxSum":                {anyTrail(leaf, 3, 65521), impl.ErrRange},
		"a bit twice":                          {anyTrail(leaf, 2, 0, 2, 0), impl.ErrForm},
		"the bit 0 twice":                      {anyTrail(leaf, 0, 0, 0, 0), impl.ErrForm},
		"the bit 7 twice":                      {anyTrail(leaf, 7, 1, 7, 2), impl.ErrForm},
		"bits that fall":                       {anyTrail(leaf, 3, 0, 2, 0), impl.ErrForm},
		"bits that fall, as they are walked":   {anyTrail(leaf, 7, 0, 4, 0, 1, 0), impl.ErrForm},
		"a bit twice, with one between":        {anyTrail(leaf, 2, 0, 5, 0, 2, 0), impl.ErrForm},
		"above the first, below the one ahead": {anyTrail(leaf, 1, 0, 6, 0, 3, 0), impl.ErrForm},
		"one falls, the next one rises":        {anyTrail(leaf, 4, 0, 2, 0, 5, 0), impl.ErrForm},
		"sums that fall are right":             {anyTrail(leaf, 1, 9, 2, 8, 3, 7), impl.OK},
		// Several at once: nothing there, the leaf, how many, then fork by fork the range, then whether it rises.
		"not Any, a key out of range":                {impl.Trail{Leaf: impl.Slot{Key: 256}}, impl.ErrForm},
		"not Any, a value out of range":              {impl.Trail{Leaf: impl.Slot{Value: -1}}, impl.ErrForm},
		"not Any, nine forks":                        {impl.Trail{Forks: make([]impl.Fork, 9)}, impl.ErrForm},
		"not Any, a bit out of range":                {impl.Trail{Forks: forksOf(8, 0)}, impl.ErrForm},
		"not Any, all that may be wrong":             {impl.Trail{Leaf: impl.Slot{Key: -1, Value: -1}, Forks: slices.Repeat(forksOf(-1, -1), 9)}, impl.ErrForm},
		"a key out of range, nine forks":             {turned(nine, func(x *impl.Trail) { x.Leaf.Key = 256 }), impl.ErrRange},
		"a value out of range, nine forks":           {turned(nine, func(x *impl.Trail) { x.Leaf.Value = -1 }), impl.ErrRange},
		"a key out of range, a bit twice":            {anyTrail(impl.Slot{Key: -1}, 2, 0, 2, 0), impl.ErrRange},
		"a value out of range, bits that fall":       {anyTrail(impl.Slot{Value: 65521}, 3, 0, 2, 0), impl.ErrRange},
		"nine forks, the first bit out of range":     {turned(nine, func(x *impl.Trail) { x.Forks[0].Bit = -1 }), impl.ErrMany},
		"nine forks, the last Other out of range":    {turned(nine, func(x *impl.Trail) { x.Forks[8].Other = 65521 }), impl.ErrMany},
		"nine forks, the ninth of the bit 8":         {turned(nine, func(x *impl.Trail) { x.Forks[8].Bit = 8 }), impl.ErrMany},
		"a bit twice, its Other out of range":        {anyTrail(leaf, 2, 0, 2, 65521), impl.ErrRange},
		"a bit that falls out of range":              {anyTrail(leaf, 2, 0, -1, 0), impl.ErrRange},
		"a bit twice, then one out of range":         {anyTrail(leaf, 2, 0, 2, 0, 8, 0), impl.ErrForm},
		"bits that fall, then an Other out":          {anyTrail(leaf, 3, 0, 1, 0, 6, -1), impl.ErrForm},
		"a bit out of range, then a bit twice":       {anyTrail(leaf, 8, 0, 2, 0, 2, 0), impl.ErrRange},
		"an Other out of range, then bits that fall": {anyTrail(leaf, 1, 0, 5, -1, 3, 0), impl.ErrRange},
		"8 twice": {anyTrail(leaf, 8, 0, 8, 0), impl.ErrRange},
	}
}

func TestTrailFaultCodes(t *testing.T) {
	for name, x := range faultyTrails() {
		if got := impl.TrailFault(x.trail); got != x.code {
			t.Errorf("%s: TrailFault(%v) = %d, not %d", name, x.trail, got, x.code)
		}
		if got := trailCode(x.trail); got != x.code {
			t.Errorf("%s: the words said over again tell %d", name, got)
		}
		seeTrail(t, x.trail, -1, 0, 1, 5, 127, 128, 170, 255, 256)
		seeTaken(t, 5, x.trail)
		if got := impl.ClimbNew(5, x.trail); got.Code != x.code || x.code != impl.OK && got.Value != 0 {
			t.Errorf("%s: ClimbNew(5, %v) = %#v, not code %d", name, x.trail, got, x.code)
		}
		if got := impl.TrailSize(x.trail); got.Code != x.code || x.code != impl.OK && got.Value != 0 {
			t.Errorf("%s: TrailSize(%v) = %#v, not code %d", name, x.trail, got, x.code)
		}
	}
}

// The leaf: each key and each sum, and what is none; beside Any, and without it.
func TestTrailFaultLeaf(t *testing.T) {
	keys := slices.Clone(noKeys)
	for key := range int64(256) {
		keys = append(keys, key)
	}
	for _, key := range keys {
		for _, value := range slices.Concat(sumEdges, noSums) {
			leaf := impl.Slot{Key: key, Value: value}
			for _, forks := range [][]impl.Fork{nil, fullTrail.Forks, make([]impl.Fork, 9)} {
				seeTrail(t, impl.Trail{Any: true, Leaf: leaf, Forks: forks}, key, 5)
				seeTrail(t, impl.Trail{Leaf: leaf, Forks: forks}, key, 5)
			}
		}
	}
	for value := range int64(65521) {
		x := anyTrail(impl.Slot{Key: 9, Value: value}, 3, value)
		if impl.TrailFault(x) != impl.OK || impl.ClimbNew(9, x) != climbNewBy(9, x) {
			t.Fatalf("%v: %d, %#v", x, impl.TrailFault(x), impl.ClimbNew(9, x))
		}
	}
}

// How many forks there are: none, Depth, one more, and on; whatever they are.
func TestTrailFaultMany(t *testing.T) {
	for n := range 40 {
		forks := slices.Repeat(forksOf(3, 4), n)
		rising := slices.Concat(fullTrail.Forks, forksOf(8, 0, 9, 0, 10, 0))[:min(n, 11)]
		for _, x := range []impl.Trail{{Any: true, Forks: forks}, {Any: true, Forks: rising}, {Forks: forks}} {
			seeTrail(t, x, 0, 200)
		}
		if n <= 8 && impl.TrailFault(impl.Trail{Any: true, Forks: rising}) != impl.OK {
			t.Errorf("%d forks: %d", n, impl.TrailFault(impl.Trail{Any: true, Forks: rising}))
		}
		if n > 8 && (impl.TrailFault(impl.Trail{Any: true, Forks: rising}) != impl.ErrMany || impl.TrailFault(impl.Trail{Any: true, Forks: forks}) != impl.ErrMany) {
			t.Errorf("%d forks: %d, %d", n, impl.TrailFault(impl.Trail{Any: true, Forks: rising}), impl.TrailFault(impl.Trail{Any: true, Forks: forks}))
		}
	}
}

// One fork of eight that is not so, or does not rise, at each place.
func TestTrailFaultPlaces(t *testing.T) {
	for at := range 8 {
		for _, n := range noSums {
			x := turned(fullTrail, func(x *impl.Trail) { x.Forks[at].Other = n })
			if impl.TrailFault(x) != impl.ErrRange {
				t.Fatalf("TrailFault(%v) = %d", x, impl.TrailFault(x))
			}
			seeTrail(t, x, 77)
		}
		for _, n := range slices.Concat(noKeys, []int64{8, 9, 63, 64, 128, 255}) {
			x := turned(fullTrail, func(x *impl.Trail) { x.Forks[at].Bit = n })
			if impl.TrailFault(x) != impl.ErrRange {
				t.Fatalf("TrailFault(%v) = %d", x, impl.TrailFault(x))
			}
			seeTrail(t, x, 77)
		}
		for bit := range int64(8) {
			x := turned(fullTrail, func(x *impl.Trail) { x.Forks[at].Bit = bit })
			if got := impl.TrailFault(x); (got == impl.OK) != (bit == int64(at)) || got != impl.OK && got != impl.ErrForm {
				t.Fatalf("TrailFault(%v) = %d", x, got)
			}
			seeTrail(t, x, 77)
		}
	}
}

// Every three bits, and those around them: the same, falling, rising; each with an Other that is no sum, at each place.
func TestTrailFaultBits(t *testing.T) {
	codes := map[int64]int{}
	for a := int64(-1); a <= 8; a++ {
		for b := int64(-1); b <= 8; b++ {
			for c := int64(-1); c <= 8; c++ {
				x := anyTrail(impl.Slot{Key: 3}, a, 1, b, 2, c, 3)
				seeTrail(t, x, 3, 85, 170)
				codes[impl.TrailFault(x)]++
				for at := range 3 {
					seeTrail(t, turned(x, func(x *impl.Trail) { x.Forks[at].Other = 65521 }), 3)
				}
			}
		}
	}
	if codes[impl.OK] != 56 || codes[impl.ErrRange] == 0 || codes[impl.ErrForm] == 0 || len(codes) != 3 {
		t.Errorf("codes of three bits: %v", codes)
	}
	// Each set of bits, as it rises, and with any two of them in each other's place.
	for set := range 256 {
		x := impl.Trail{Any: true, Leaf: impl.Slot{Key: int64(set), Value: 9}}
		for bit := range int64(8) {
			if bitBy(int64(set), bit) == 1 {
				x.Forks = append(x.Forks, impl.Fork{Bit: bit, Other: bit*7001 + int64(set)})
			}
		}
		if impl.TrailFault(x) != impl.OK {
			t.Fatalf("TrailFault(%v) = %d", x, impl.TrailFault(x))
		}
		seeTrail(t, x, 0, 15, 85, 170, 240, 255, int64(set), 255-int64(set))
		for low := range x.Forks {
			for high := range x.Forks[:low] {
				swapped := turned(x, func(x *impl.Trail) { x.Forks[low], x.Forks[high] = x.Forks[high], x.Forks[low] })
				if impl.TrailFault(swapped) != impl.ErrForm {
					t.Fatalf("TrailFault(%v) = %d", swapped, impl.TrailFault(swapped))
				}
			}
		}
	}
}

func TestClimbNewExamples(t *testing.T) {
	three := anyTrail(impl.Slot{Key: 5, Value: 30}, 0, 10338, 2, 17886)
	climbs := []struct {
		key   int64
		trail impl.Trail
		root  int64
	}{
		{0, impl.Trail{}, 1817},
		{255, impl.Trail{}, 1817},
		{0, impl.Trail{Any: true}, 64076},
		{255, impl.Trail{Any: true}, 64076},
		{5, anyTrail(impl.Slot{Key: 5, Value: 258}), 29780},
		{255, anyTrail(impl.Slot{Key: 255, Value: 65520}), 47020},
		{0, anyTrail(impl.Slot{}, 0, 0), 57634},
		{1, anyTrail(impl.Slot{}, 0, 0), 54463},
		{0, anyTrail(impl.Slot{}, 7, 65520), 26563},
		{128, anyTrail(impl.Slot{}, 7, 65520), 45630},
		{127, anyTrail(impl.Slot{Key: 9, Value: 7}, 7, 300), 24421},
		{128, anyTrail(impl.Slot{Key: 9, Value: 7}, 7, 300), 38583},
		{5, three, 24446},
		{7, three, 24446},
		{4, three, 10959},
		{1, three, 28684},
		{0, three, 23374},
		{170, fullTrail, 47058},
		{85, fullTrail, 58047},
		{0, impl.Trail{Any: true, Leaf: impl.Slot{Key: 255, Value: 65520}, Forks: forksOf(0, 65520, 1, 65520, 2, 65520, 3, 65520, 4, 65520, 5, 65520, 6, 65520, 7, 65520)}, 8714},
		{255, anyTrail(impl.Slot{}, 0, 0, 1, 0, 2, 0, 3, 0, 4, 0, 5, 0, 6, 0, 7, 0), 25755},
		{200, anyTrail(impl.Slot{Key: 200, Value: 7}, 1, 2, 3, 4, 6, 5), 23751},
	}
	for _, x := range climbs {
		if got := impl.ClimbNew(x.key, x.trail); got != (impl.IntResult{Value: x.root}) {
			t.Errorf("ClimbNew(%d, %v) = %#v, not %d", x.key, x.trail, got, x.root)
		}
		mine := x.trail.Any && x.trail.Leaf.Key == x.key
		for _, root := range []int64{x.root, x.root + 1, x.root - 1, x.root + 65521, x.root - 65521, -x.root} {
			if got := impl.AcceptNew(x.key, mine, byte64(mine)*x.trail.Leaf.Value, x.trail, root); got != (root == x.root) {
				t.Errorf("AcceptNew(%d, %v, .., %v, %d) = %v", x.key, mine, x.trail, root, got)
			}
		}
		seeTaken(t, x.key, x.trail)
	}
}

// A key that is none has its code ahead of the trail's, and whatever that is.
func TestClimbNewKeys(t *testing.T) {
	for _, key := range noKeys {
		for name, x := range faultyTrails() {
			if got := impl.ClimbNew(key, x.trail); got != (impl.IntResult{Code: impl.ErrRange}) {
				t.Fatalf("%s: ClimbNew(%d, %v) = %#v", name, key, x.trail, got)
			}
			for _, root := range []int64{0, impl.ErrRange, climbNewBy(key&255, x.trail).Value} {
				if impl.AcceptNew(key, true, x.trail.Leaf.Value, x.trail, root) || impl.AcceptNew(key, false, 0, x.trail, root) {
					t.Fatalf("%s: AcceptNew takes %v of %d by %d", name, x.trail, key, root)
				}
			}
			// Nor is it taken of a leaf that has that key.
			leaf := turned(x.trail, func(x *impl.Trail) { x.Leaf.Key = key })
			if impl.AcceptNew(key, true, leaf.Leaf.Value, leaf, 0) || impl.AcceptNew(key, true, leaf.Leaf.Value, leaf, climbNewBy(key&255, x.trail).Value) {
				t.Fatalf("%s: AcceptNew takes %v of %d", name, leaf, key)
			}
		}
	}
	for key := range int64(256) {
		if got := impl.ClimbNew(key, impl.Trail{}); got != impl.TagSum(9, nil) {
			t.Fatalf("ClimbNew(%d) of nothing = %#v", key, got)
		}
	}
}

// Each key by trails that have no two alike, so that each side shows; the sides are those of key, whatever key the leaf has.
func TestClimbNewSides(t *testing.T) {
	seed := int64(5)
	next := func(below int64) int64 {
		seed = (seed*48271 + 11) % 2147483647
		return seed / 8 % below
	}
	for key := range int64(256) {
		for n := range 16 {
			x := anyTrail(impl.Slot{Key: next(256), Value: next(65521)})
			if n%2 == 0 {
				x.Leaf.Key = key
			}
			for bit := range int64(8) {
				if n < 4 || next(2) == 0 {
					x.Forks = append(x.Forks, impl.Fork{Bit: bit, Other: next(65521)})
				}
			}
			seeTrail(t, x, key)
			seeTaken(t, key, x)
		}
		for bit := range int64(8) {
			for _, side := range sumEdges {
				x := anyTrail(impl.Slot{Key: 255 - key, Value: 9}, bit, side)
				seeTrail(t, x, key)
				leaf := sumBack(tagged(4, []int64{255 - key, 9}))
				sides := []int64{bit, leaf, side}
				if bitBy(key, bit) == 1 {
					sides = []int64{bit, side, leaf}
				}
				if got := impl.ClimbNew(key, x); got != impl.TagSum(5, sides) {
					t.Fatalf("ClimbNew(%d, %v) = %#v", key, x, got)
				}
			}
		}
	}
}

// A leaf of another key shows that the key is not there, and nothing else; one of the key that it is, with that value alone.
func TestAcceptNewLeaf(t *testing.T) {
	for key := range int64(256) {
		for other := range int64(256) {
			for _, value := range []int64{0, 30} {
				x := anyTrail(impl.Slot{Key: other, Value: value}, 1, 40, 4, 50)
				root := climbNewBy(key, x).Value
				if got := impl.AcceptNew(key, true, value, x, root); got != (key == other) {
					t.Fatalf("AcceptNew(%d, true, %d, %v) = %v", key, value, x, got)
				}
				if got := impl.AcceptNew(key, false, 0, x, root); got != (key != other) {
					t.Fatalf("AcceptNew(%d, false, 0, %v) = %v", key, x, got)
				}
				for _, wrong := range []int64{-1, 1, 29, 31, 65520, 65521} {
					if impl.AcceptNew(key, true, wrong, x, root) || impl.AcceptNew(key, false, wrong, x, root) {
						t.Fatalf("AcceptNew(%d, .., %d, %v) is true", key, wrong, x)
					}
				}
				if value != 0 && impl.AcceptNew(key, false, value, x, root) {
					t.Fatalf("AcceptNew(%d, false, %d, %v) is true", key, value, x)
				}
			}
		}
		// Nothing at all: not there, with 0 alone; the leaf that is zero is no leaf.
		for _, value := range slices.Concat(sumEdges, noSums) {
			if impl.AcceptNew(key, true, value, impl.Trail{}, 1817) || impl.AcceptNew(key, false, value, impl.Trail{}, 1817) != (value == 0) {
				t.Fatalf("AcceptNew(%d, .., %d) of nothing", key, value)
			}
		}
	}
}

// What has a code is not taken by the zero that stands beside it; and a sum of 0 is a root as another one.
func TestAcceptNewZero(t *testing.T) {
	for name, x := range faultyTrails() {
		if x.code == impl.OK {
			continue
		}
		for root := int64(-20); root < 20; root++ {
			for _, key := range []int64{0, 5, 7, 77} {
				if impl.AcceptNew(key, true, x.trail.Leaf.Value, x.trail, root) || impl.AcceptNew(key, false, 0, x.trail, root) {
					t.Fatalf("%s: AcceptNew takes %v of %d by %d", name, x.trail, key, root)
				}
			}
		}
	}
	zeros := 0
	for _, key := range []int64{0, 5, 127, 128, 255} {
		for other := range int64(65521) {
			x := anyTrail(impl.Slot{Key: key, Value: 9}, 7, other)
			if climbNewBy(key, x).Value != 0 {
				continue
			}
			zeros++
			if impl.ClimbNew(key, x) != (impl.IntResult{}) || !impl.AcceptNew(key, true, 9, x, 0) || impl.AcceptNew(key, true, 9, x, 1) || impl.AcceptNew(key, true, 9, x, 65521) || impl.AcceptNew(key, false, 0, x, 0) {
				t.Fatalf("%v climbs from %d to %#v, not to 0", x, key, impl.ClimbNew(key, x))
			}
		}
	}
	if zeros < 3 {
		t.Errorf("%d trails climb to 0 alone", zeros)
	}
}

// seeShown: the trail of key in these slots climbs to their root, shows what key has, and nothing else of it.
func seeShown(t *testing.T, list []impl.Slot, root int64, key int64) {
	t.Helper()
	x := impl.NewTrail(list, key).Trail
	if got := impl.TrailFault(x); got != impl.OK {
		t.Fatalf("NewTrail(%v, %d) has the fault %d", list, key, got)
	}
	if got := impl.ClimbNew(key, x); got != (impl.IntResult{Value: root}) {
		t.Fatalf("%v: ClimbNew(%d, %v) = %#v, not %d", list, key, x, got, root)
	}
	s, there := slotBy(list, key)
	if !impl.AcceptNew(key, there, s.Value, x, root) {
		t.Fatalf("%v does not show %d, %v, %d by %v", list, key, there, s.Value, x)
	}
	for _, value := range []int64{0, s.Value, x.Leaf.Value} {
		if impl.AcceptNew(key, !there, value, x, root) {
			t.Fatalf("%v shows %d, %v, %d by %v", list, key, !there, value, x)
		}
	}
	for _, value := range []int64{s.Value + 1, s.Value - 1, -1, 65521} {
		if impl.AcceptNew(key, there, value, x, root) {
			t.Fatalf("%v shows %d, %v, %d by %v", list, key, there, value, x)
		}
	}
	for _, other := range []int64{root + 1, root - 1, root + 65521, root - 65521} {
		if impl.AcceptNew(key, there, s.Value, x, other) {
			t.Fatalf("%d, %v, %d by %v is taken by %d, not by %d alone", key, there, s.Value, x, other, root)
		}
	}
	below := int64(-1)
	for _, fork := range x.Forks {
		if fork.Bit <= below {
			t.Fatalf("NewTrail(%v, %d) = %v: bits do not rise", list, key, x)
		}
		below = fork.Bit
	}
	if len(list) > 0 && len(x.Forks) >= len(list) {
		t.Fatalf("NewTrail(%v, %d) = %v: too many forks", list, key, x)
	}
	if got, want := impl.TrailSize(x), byte64(x.Any)*4+int64(len(x.Forks))*3+1; got != (impl.IntResult{Value: want}) {
		t.Fatalf("TrailSize(%v) = %#v, not %d", x, got, want)
	}
}

// P8: of every key, of none, one, two, three and MaxSlots slots and all between.
func TestP8Shown(t *testing.T) {
	counts := map[int]int{}
	for _, list := range forkedSlots() {
		counts[len(list)]++
		root := impl.NewRoot(list).Value
		for key := range int64(256) {
			seeShown(t, list, root, key)
		}
	}
	for n := range 13 {
		if counts[n] == 0 {
			t.Errorf("no list of %d slots was asked", n)
		}
	}
}

// P8: one slot, of each key and at both ends of what it may have, asked of every key.
func TestP8OneSlot(t *testing.T) {
	for key := range int64(256) {
		for _, value := range []int64{0, 65520} {
			list := []impl.Slot{{Key: key, Value: value}}
			root := impl.NewRoot(list).Value
			for asked := range int64(256) {
				seeShown(t, list, root, asked)
			}
		}
	}
}

// P8: every two keys, asked of themselves, of both ends, and of what leads to each of them.
func TestP8TwoSlots(t *testing.T) {
	for low := range int64(256) {
		for high := low + 1; high < 256; high++ {
			list := []impl.Slot{{Key: low, Value: low * 7}, {Key: high, Value: 65520 - high}}
			root := impl.NewRoot(list).Value
			for _, key := range []int64{low, high, 0, 255, low ^ high, high - 1} {
				seeShown(t, list, root, key)
			}
		}
	}
}

// P8: a way of Depth forks, the longest that there is.
func TestP8LongestTrail(t *testing.T) {
	for _, list := range [][]impl.Slot{keysOf(0, 1, 2, 4, 8, 16, 32, 64, 128), keysOf(127, 191, 223, 239, 247, 251, 253, 254, 255)} {
		first, last := impl.NewTrail(list, 0).Trail, impl.NewTrail(list, 255).Trail
		long := first
		if list[0].Key != 0 {
			long = last
		}
		if len(long.Forks) != 8 || impl.TrailSize(long) != (impl.IntResult{Value: 29}) || impl.TrailFault(long) != impl.OK {
			t.Errorf("%v: %v, %#v", list, long, impl.TrailSize(long))
		}
	}
}

// P8: what is not so is not taken by a trail of these slots: not that of another key, nor one that was turned; where
// sums are the same, the words said over again tell it too.
func TestP8NotSo(t *testing.T) {
	lies, taken := 0, 0
	for _, list := range [][]impl.Slot{nil, keysOf(5), keysOf(85, 170), keysOf(1, 4, 5), keysOf(127, 128, 255), run(12, 3, 22), run(12, 122, 1)} {
		root := impl.NewRoot(list).Value
		for key := range int64(256) {
			s, there := slotBy(list, key)
			for _, x := range turnedTrails(list, key) {
				for _, told := range []impl.Slot{{}, {Value: s.Value}, {Value: x.Leaf.Value}} {
					for _, lie := range []bool{false, true} {
						got := impl.AcceptNew(key, lie, told.Value, x, root)
						if got != takenBy(key, lie, told.Value, x, root) {
							t.Fatalf("AcceptNew(%d, %v, %d, %v, %d) = %v", key, lie, told.Value, x, root, got)
						}
						if lie != there || told.Value != s.Value {
							lies++
							taken += int(byte64(got))
						}
					}
				}
			}
		}
	}
	// A lie is taken by two pieces of one sum alone, and these are rare.
	if lies < 50000 || taken > lies/1000 {
		t.Errorf("%d of %d lies are taken", taken, lies)
	}
}

// turnedTrails: trails of other keys, and that of key with a part of it turned.
func turnedTrails(list []impl.Slot, key int64) []impl.Trail {
	is := impl.NewTrail(list, key).Trail
	out := []impl.Trail{is, {}, turned(is, func(x *impl.Trail) { x.Any = !x.Any })}
	for _, other := range []int64{0, 255, 255 - key, key ^ 1, key ^ 128} {
		out = append(out, impl.NewTrail(list, other).Trail)
	}
	for _, s := range list {
		out = append(out, impl.NewTrail(list, s.Key).Trail, impl.Trail{Any: true, Leaf: s})
	}
	out = append(out,
		turned(is, func(x *impl.Trail) { x.Leaf.Key = key }),
		turned(is, func(x *impl.Trail) { x.Leaf.Key = 255 - key }),
		turned(is, func(x *impl.Trail) { x.Leaf.Value = 65520 - x.Leaf.Value }),
		turned(is, func(x *impl.Trail) { slices.Reverse(x.Forks) }))
	for at := range is.Forks {
		out = append(out,
			turned(is, func(x *impl.Trail) { x.Forks = slices.Delete(x.Forks, at, at+1) }),
			turned(is, func(x *impl.Trail) { x.Forks[at].Other ^= 1 }),
			turned(is, func(x *impl.Trail) { x.Forks[at].Bit = 7 - x.Forks[at].Bit }))
	}
	return out
}

func TestSameTrails(t *testing.T) {
	same := func(a impl.Trail, b impl.Trail, want bool) {
		t.Helper()
		if impl.SameTrails(a, b) != want || impl.SameTrails(b, a) != want {
			t.Errorf("SameTrails(%v, %v) = %v, and %v", a, b, impl.SameTrails(a, b), impl.SameTrails(b, a))
		}
	}
	var all []impl.Trail
	for _, pair := range oneTurn() {
		if impl.TrailFault(pair[0]) != impl.OK || impl.TrailFault(pair[1]) != impl.OK {
			t.Errorf("%v has a fault", pair)
		}
		same(pair[0], pair[1], false)
		all = append(all, pair[:]...)
	}
	// It asks for no fault: what is the same is the same.
	for _, x := range faultyTrails() {
		all = append(all, x.trail)
	}
	for _, x := range all {
		same(x, x, true)
		same(x, turned(x, func(*impl.Trail) {}), true)
		if trailCode(x) != impl.OK {
			same(x, impl.Trail{}, false)
		}
		same(x, turned(x, func(x *impl.Trail) { x.Any = !x.Any }), false)
		same(x, turned(x, func(x *impl.Trail) { x.Leaf.Key++ }), false)
		same(x, turned(x, func(x *impl.Trail) { x.Leaf.Value-- }), false)
		same(x, turned(x, func(x *impl.Trail) { x.Leaf.Value += 65536 }), false)
		same(x, turned(x, func(x *impl.Trail) { x.Forks = append(x.Forks, impl.Fork{}) }), false)
		for at := range x.Forks {
			same(x, turned(x, func(x *impl.Trail) { x.Forks[at].Bit++ }), false)
			same(x, turned(x, func(x *impl.Trail) { x.Forks[at].Other-- }), false)
			same(x, turned(x, func(x *impl.Trail) { x.Forks = x.Forks[:at] }), false)
		}
	}
	// A leaf whose key and value are the other way round, and forks in another order.
	same(anyTrail(impl.Slot{Key: 3, Value: 4}), anyTrail(impl.Slot{Key: 4, Value: 3}), false)
	same(anyTrail(impl.Slot{}, 3, 4), anyTrail(impl.Slot{}, 4, 3), false)
	same(anyTrail(impl.Slot{}, 1, 2, 3, 4), anyTrail(impl.Slot{}, 3, 4, 1, 2), false)
	same(anyTrail(impl.Slot{}, 1, 2, 1, 2), anyTrail(impl.Slot{}, 1, 2), false)
	same(impl.Trail{}, impl.Trail{Forks: []impl.Fork{}}, true)
	same(anyTrail(impl.Slot{Key: 9}), impl.Trail{Any: true, Leaf: impl.Slot{Key: 9}, Forks: make([]impl.Fork, 0, 5)}, true)
}

func TestTrailSize(t *testing.T) {
	if got := impl.TrailSize(impl.Trail{}); got != (impl.IntResult{Value: 1}) {
		t.Errorf("TrailSize of nothing = %#v", got)
	}
	for n, size := range []int64{5, 8, 11, 14, 17, 20, 23, 26, 29} {
		first := turned(fullTrail, func(x *impl.Trail) { x.Forks = x.Forks[:n] })
		last := turned(fullTrail, func(x *impl.Trail) { x.Forks = x.Forks[8-n:] })
		if impl.TrailSize(first) != (impl.IntResult{Value: size}) || impl.TrailSize(last) != (impl.IntResult{Value: size}) {
			t.Errorf("TrailSize of %d forks = %#v, %#v, not %d", n, impl.TrailSize(first), impl.TrailSize(last), size)
		}
	}
}

// askTrail: all that chapter 7 answers of these arguments, laid in one list.
func askTrail(key int64, x impl.Trail, other impl.Trail) []int64 {
	climbed, size := impl.ClimbNew(key, x), impl.TrailSize(x)
	out := []int64{impl.TrailFault(x), climbed.Code, climbed.Value, size.Code, size.Value, byte64(impl.SameTrails(x, other)), byte64(impl.SameTrails(other, x))}
	for _, there := range []bool{false, true} {
		for _, value := range []int64{0, x.Leaf.Value} {
			for _, root := range []int64{0, 1817, climbNewBy(key, x).Value} {
				out = append(out, byte64(impl.AcceptNew(key, there, value, x, root)))
			}
		}
	}
	return out
}

// someTrails: those of slots, of faults, and some that differ by one part.
func someTrails() []impl.Trail {
	var out []impl.Trail
	for _, list := range [][]impl.Slot{nil, keysOf(5), keysOf(1, 4, 5), run(12, 3, 22)} {
		for _, key := range []int64{0, 5, 124, 255} {
			out = append(out, impl.NewTrail(list, key).Trail)
		}
	}
	for _, pair := range oneTurn() {
		out = append(out, pair[:]...)
	}
	// By name, so that each run goes the same way.
	faulty := faultyTrails()
	var names []string
	for name := range faulty {
		names = append(names, name)
	}
	slices.Sort(names)
	for _, name := range names {
		out = append(out, faulty[name].trail)
	}
	return out
}

// P1: what is handed in is as it was, with the room around it; and that room is not looked at.
func TestP1NewProofArgumentsStay(t *testing.T) {
	behind := forksOf(-9, 70000, 3, 5, 6, 7)
	trails := someTrails()
	for at, x := range trails {
		other := trails[(at+1)%len(trails)]
		room, otherRoom := slices.Concat(behind, x.Forks, behind), slices.Concat(behind, other.Forks, behind)
		was, otherWas := slices.Clone(room), slices.Clone(otherRoom)
		given, givenOther := x, other
		given.Forks, givenOther.Forks = room[3:3+len(x.Forks)], otherRoom[3:3+len(other.Forks)]
		for _, key := range treeKeys {
			if got, want := askTrail(key, given, givenOther), askTrail(key, x, other); !slices.Equal(got, want) {
				t.Fatalf("%v, %d with room behind: %v, not %v", x, key, got, want)
			}
			// Both of one memory: a trail and itself, and one that is a piece of it.
			askTrail(key, given, given)
			askTrail(key, given, impl.Trail{Any: true, Forks: given.Forks[:len(given.Forks)/2]})
			if !slices.Equal(room, was) || !slices.Equal(otherRoom, otherWas) {
				t.Fatalf("%v, %d turned its arguments: %v, %v", x, key, room, otherRoom)
			}
		}
	}
}

// P1: nil and an empty list are the same value.
func TestP1NewProofNoForks(t *testing.T) {
	for _, x := range []impl.Trail{{}, {Any: true}, anyTrail(impl.Slot{Key: 5, Value: 30}), {Leaf: impl.Slot{Key: 5}}, anyTrail(impl.Slot{Key: 256})} {
		empty := x
		empty.Forks = make([]impl.Fork, 0, 5)
		for _, key := range treeKeys {
			if !slices.Equal(askTrail(key, x, empty), askTrail(key, empty, x)) || !impl.SameTrails(x, empty) {
				t.Errorf("%v, %d of an empty list is another answer", x, key)
			}
		}
	}
}

func TestP1NewProofsHangOnArguments(t *testing.T) {
	trails := someTrails()
	var first [][]int64
	for at, x := range trails {
		for _, key := range treeKeys {
			first = append(first, askTrail(key, x, trails[at/2]))
		}
	}
	// The other way round the second time, so that something kept would show.
	for at, was := range slices.Backward(first) {
		x, key := trails[at/len(treeKeys)], treeKeys[at%len(treeKeys)]
		if is := askTrail(key, x, trails[at/len(treeKeys)/2]); !slices.Equal(is, was) {
			t.Fatalf("%v, %d: %v, then %v", x, key, was, is)
		}
	}
}
