package tests

import (
	"bytes"
	"math"
	"slices"
	"testing"

	"loop.example/g00602/impl"
)

// tale: what is told of a key by a trail of the new tree.
type tale struct {
	key   int64
	there bool
	value int64
	trail impl.Trail
}

func (x tale) clash(list []impl.Slot) impl.ClashResult {
	return impl.NewClash(list, x.key, x.there, x.value, x.trail)
}

func (x tale) said() impl.Said {
	return impl.Said{There: x.there, Value: x.value, Trail: x.trail}
}

func (x story) said() impl.Said {
	return impl.Said{Old: true, There: x.there, Value: x.value, Path: x.path}
}

// taleOf: what a trail tells of key, whatever it is.
func taleOf(key int64, x impl.Trail) tale {
	if x.Any && x.Leaf.Key == key {
		return tale{key, true, x.Leaf.Value, x}
	}
	return tale{key, false, 0, x}
}

// clashBy, trailPiecesBy, newClashBy, saidCode, bothClashBy, treeClashBy and oldTreeClashBy say over
// again, in the document's words, what chapter 8 asks; trees are gone down without calls of themselves.
func clashBy(a []byte, b []byte) impl.ClashResult {
	if sumBack(a) != sumBack(b) || bytes.Equal(a, b) {
		return impl.ClashResult{}
	}
	return impl.ClashResult{Clash: impl.Clash{Found: true, A: a, B: b}}
}

// trailPiecesBy: what is summed, from the leaf (or from nothing) on up to the root.
func trailPiecesBy(key int64, x impl.Trail) [][]byte {
	if !x.Any {
		return [][]byte{{9}}
	}
	pieces := [][]byte{tagged(4, []int64{x.Leaf.Key, x.Leaf.Value})}
	for at, fork := range x.Forks {
		sides := []int64{sumBack(pieces[at]), fork.Other}
		if bitBy(key, fork.Bit) == 1 {
			slices.Reverse(sides)
		}
		pieces = append(pieces, tagged(5, append([]int64{fork.Bit}, sides...)))
	}
	return pieces
}

func newClashBy(list []impl.Slot, x tale) impl.ClashResult {
	if code := slotsCode(list); code != impl.OK {
		return impl.ClashResult{Code: code}
	}
	if climbed := climbNewBy(x.key, x.trail); climbed.Code != impl.OK {
		return impl.ClashResult{Code: climbed.Code}
	}
	if !takenBy(x.key, x.there, x.value, x.trail, newRootBy(list)) {
		return impl.ClashResult{Code: impl.ErrProof}
	}
	pieces := trailPiecesBy(x.key, x.trail)
	for at, fork := range slices.Backward(x.trail.Forks) {
		if got := clashBy(pieces[at+1], nodeBy(list)); got.Clash.Found {
			return got
		}
		list = sideBy(list, fork.Bit, bitBy(x.key, fork.Bit))
	}
	return clashBy(pieces[0], nodeBy(list))
}

func saidCode(s impl.Said) int64 {
	if s.Old && (s.Trail.Any || s.Trail.Leaf.Key != 0 || s.Trail.Leaf.Value != 0 || len(s.Trail.Forks) != 0) {
		return impl.ErrForm
	}
	if !s.Old && len(s.Path) != 0 {
		return impl.ErrForm
	}
	if s.There && (s.Value < 0 || s.Value >= 65521) {
		return impl.ErrRange
	}
	if !s.There && s.Value != 0 {
		return impl.ErrRange
	}
	return impl.OK
}

func bothClashBy(list []impl.Slot, key int64, a impl.Said, b impl.Said) impl.ClashResult {
	code := func(code int64) impl.ClashResult { return impl.ClashResult{Code: code} }
	of := func(s impl.Said) impl.ClashResult {
		if s.Old {
			return oldClashBy(list, story{key, s.There, s.Value, s.Path})
		}
		return newClashBy(list, tale{key, s.There, s.Value, s.Trail})
	}
	switch {
	case saidCode(a) != impl.OK:
		return code(saidCode(a))
	case saidCode(b) != impl.OK:
		return code(saidCode(b))
	case of(a).Code != impl.OK:
		return code(of(a).Code)
	case of(b).Code != impl.OK:
		return code(of(b).Code)
	case of(a).Clash.Found:
		return of(a)
	}
	return of(b)
}

func treeClashBy(a []impl.Slot, b []impl.Slot) impl.ClashResult {
	for _, list := range [][]impl.Slot{a, b} {
		if code := slotsCode(list); code != impl.OK {
			return impl.ClashResult{Code: code}
		}
	}
	if newRootBy(a) != newRootBy(b) {
		return impl.ClashResult{Code: impl.ErrProof}
	}
	ahead := [][2][]impl.Slot{{a, b}}
	for len(ahead) > 0 {
		a, b := ahead[0][0], ahead[0][1]
		ahead = ahead[1:]
		if got := clashBy(nodeBy(a), nodeBy(b)); got.Clash.Found {
			return got
		}
		if len(a) > 1 && len(b) > 1 {
			bitA, bitB := forkBitBy(a), forkBitBy(b)
			ahead = slices.Insert(ahead, 0,
				[2][]impl.Slot{sideBy(a, bitA, 0), sideBy(b, bitB, 0)},
				[2][]impl.Slot{sideBy(a, bitA, 1), sideBy(b, bitB, 1)})
		}
	}
	return impl.ClashResult{}
}

// oldPieceBy: what is summed at a place of a level of the old tree.
func oldPieceBy(list []impl.Slot, levels [][]int64, level int, place int64) []byte {
	if level == 0 {
		return leafBy(storyOf(list, levels, place))
	}
	return tagged(2, levels[level-1][2*place:2*place+2])
}

// oldTreeClashBy also tells the level of what it found. A part comes ahead of its halves, and these in
// their order, just where parts are told by their first key, and those of one key from the greatest on.
func oldTreeClashBy(a []impl.Slot, b []impl.Slot) (impl.ClashResult, int) {
	for _, list := range [][]impl.Slot{a, b} {
		if code := slotsCode(list); code != impl.OK {
			return impl.ClashResult{Code: code}, -1
		}
	}
	levelsA, levelsB := oldLevels(a), oldLevels(b)
	if levelsA[8][0] != levelsB[8][0] {
		return impl.ClashResult{Code: impl.ErrProof}, -1
	}
	for key := range int64(256) {
		for level := 8; level >= 0; level-- {
			if key%(1<<level) != 0 {
				continue
			}
			place := key >> level
			got := clashBy(oldPieceBy(a, levelsA, level, place), oldPieceBy(b, levelsB, level, place))
			if got.Clash.Found {
				return got, level
			}
		}
	}
	return impl.ClashResult{}, -1
}

// seeTale: what is answered is what the words ask; and what is taken is so, or there are two pieces of one sum.
func seeTale(t *testing.T, list []impl.Slot, x tale) {
	t.Helper()
	got := x.clash(list)
	if want := newClashBy(list, x); !sameClash(got, want) {
		t.Fatalf("NewClash(%v, %v) = %#v, not %#v", list, x, got, want)
	}
	if impl.IsClash(got.Clash) != got.Clash.Found {
		t.Fatalf("NewClash(%v, %v) = %#v is no clash", list, x, got)
	}
	if got.Code != impl.OK || got.Clash.Found {
		return
	}
	s, there := slotBy(list, x.key)
	if x.there != there || x.value != s.Value || !impl.SameTrails(x.trail, trailBy(list, x.key)) {
		t.Fatalf("NewClash(%v, %v) = %#v, and that is not so", list, x, got)
	}
}

func seeTrees(t *testing.T, a []impl.Slot, b []impl.Slot) {
	t.Helper()
	gotNew, gotOld := impl.TreeClash(a, b), impl.OldTreeClash(a, b)
	if want := treeClashBy(a, b); !sameClash(gotNew, want) {
		t.Fatalf("TreeClash(%v, %v) = %#v, not %#v", a, b, gotNew, want)
	}
	if want, _ := oldTreeClashBy(a, b); !sameClash(gotOld, want) {
		t.Fatalf("OldTreeClash(%v, %v) = %#v, not %#v", a, b, gotOld, want)
	}
	for _, got := range []impl.ClashResult{gotNew, gotOld} {
		if impl.IsClash(got.Clash) != got.Clash.Found {
			t.Fatalf("%v, %v: %#v is no clash", a, b, got)
		}
		if got.Code == impl.OK && got.Clash.Found == slices.Equal(a, b) {
			t.Fatalf("%v, %v have one root: %#v", a, b, got)
		}
	}
}

// leavesTo: the leaves of a key that have that sum.
func leavesTo(key int64, target int64) []impl.Slot {
	var leaves []impl.Slot
	for _, value := range numbersTo(target, func(n int64) int64 { return sumBack(tagged(4, []int64{key, n})) }) {
		leaves = append(leaves, impl.Slot{Key: key, Value: value})
	}
	return leaves
}

// forksTo: the forks at a bit, on the way of key, that make target of sum.
func forksTo(key int64, bit int64, sum int64, target int64) []impl.Fork {
	sides := func(other int64) int64 {
		if bitBy(key, bit) == 1 {
			return sumBack(tagged(5, []int64{bit, other, sum}))
		}
		return sumBack(tagged(5, []int64{bit, sum, other}))
	}
	var forks []impl.Fork
	for _, other := range numbersTo(target, sides) {
		forks = append(forks, impl.Fork{Bit: bit, Other: other})
	}
	return forks
}

// lie: a tale that is taken and is not so, and the two pieces of one sum that it has to show.
type lie struct {
	tale
	told []byte
	is   []byte
}

// liesOf: in place of each node on the way of key a leaf, one fork more, or two, of that sum; all above is as it is.
func liesOf(list []impl.Slot, key int64) []lie {
	way := trailBy(list, key)
	var lies []lie
	for at, is := range trailPiecesBy(key, way) {
		above := way.Forks[at:]
		add := func(leaf impl.Slot, below ...impl.Fork) {
			x := impl.Trail{Any: true, Leaf: leaf, Forks: slices.Concat(below, above)}
			told := trailPiecesBy(key, x)[len(below)]
			if !bytes.Equal(told, is) {
				lies = append(lies, lie{taleOf(key, x), told, is})
			}
		}
		most := int64(8)
		if len(above) > 0 {
			most = above[0].Bit
		}
		for _, other := range []int64{key, key ^ 1, 255 - key} {
			for _, leaf := range leavesTo(other, sumBack(is)) {
				add(leaf)
			}
			leaf := impl.Slot{Key: other, Value: 4321 + key}
			sum := newRootBy([]impl.Slot{leaf})
			for bit := range most {
				for _, fork := range forksTo(key, bit, sum, sumBack(is)) {
					add(leaf, fork)
				}
				if bit == 0 {
					continue
				}
				low := impl.Fork{Bit: bit - 1, Other: 77}
				for _, fork := range forksTo(key, bit, climbNewBy(key, impl.Trail{Any: true, Leaf: leaf, Forks: []impl.Fork{low}}).Value, sumBack(is)) {
					add(leaf, low, fork)
				}
			}
		}
		if sumBack(is) == 1817 && len(above) == 0 && way.Any {
			lies = append(lies, lie{tale{key: key}, []byte{9}, is})
		}
	}
	return lies
}

// fewTrees: one, two, three and MaxSlots slots, none, and two whose roots are those of nothing.
var fewTrees = [][]impl.Slot{nil, keysOf(5), {{Key: 0, Value: 5836}}, {{Key: 1, Value: 3}, {Key: 5, Value: 2236}}, keysOf(85, 170), {{Key: 1, Value: 10}, {Key: 4, Value: 20}, {Key: 5, Value: 30}}, keysOf(127, 128, 255), run(12, 3, 22), run(12, 122, 1), keysOf(0, 1, 2, 4, 8, 16, 32, 64, 128)}

var threeSlots = []impl.Slot{{Key: 1, Value: 10}, {Key: 4, Value: 20}, {Key: 5, Value: 30}}

func TestNewClashExamples(t *testing.T) {
	one := []impl.Slot{{Key: 5, Value: 258}}
	none := impl.Trail{}
	clashes := []struct {
		list []impl.Slot
		tale
		a []byte
		b []byte
	}{
		{nil, taleOf(7, none), nil, nil},
		{one, taleOf(5, anyTrail(one[0])), nil, nil},
		{one, taleOf(6, anyTrail(one[0])), nil, nil},
		{threeSlots, taleOf(5, anyTrail(impl.Slot{Key: 5, Value: 30}, 0, 10338, 2, 17886)), nil, nil},
		{threeSlots, taleOf(7, anyTrail(impl.Slot{Key: 5, Value: 30}, 0, 10338, 2, 17886)), nil, nil},
		// A leaf where there is nothing, and nothing where there is a leaf, or a fork.
		{nil, taleOf(0, anyTrail(impl.Slot{Key: 0, Value: 5836})), []byte{4, 0, 0, 22, 204}, []byte{9}},
		{nil, taleOf(255, anyTrail(impl.Slot{Key: 0, Value: 5836})), []byte{4, 0, 0, 22, 204}, []byte{9}},
		{[]impl.Slot{{Key: 0, Value: 5836}}, taleOf(0, none), []byte{9}, []byte{4, 0, 0, 22, 204}},
		{[]impl.Slot{{Key: 1, Value: 3}, {Key: 5, Value: 2236}}, taleOf(5, none), []byte{9}, []byte{5, 0, 2, 69, 215, 120, 219}},
		// A leaf where there is a fork, and a fork where there is a leaf.
		{threeSlots, taleOf(4, anyTrail(impl.Slot{Key: 4, Value: 25828})), []byte{4, 0, 4, 100, 228}, []byte{5, 0, 2, 69, 222, 254, 17}},
		{threeSlots, taleOf(5, anyTrail(impl.Slot{Key: 4, Value: 25828})), []byte{4, 0, 4, 100, 228}, []byte{5, 0, 2, 69, 222, 254, 17}},
		{one, taleOf(5, anyTrail(impl.Slot{Key: 5}, 3, 59882)), []byte{5, 0, 3, 115, 199, 233, 234}, []byte{4, 0, 5, 1, 2}},
	}
	for _, x := range clashes {
		want := impl.ClashResult{Clash: impl.Clash{Found: x.a != nil, A: x.a, B: x.b}}
		if got := x.clash(x.list); !sameClash(got, want) {
			t.Errorf("NewClash(%v, %v) = %#v, not %v, %v", x.list, x.tale, got, x.a, x.b)
		}
		seeTale(t, x.list, x.tale)
	}
}

// P9: of every key, of slots of none to MaxSlots: what the new tree shows has no clash beside it.
func TestP9Shown(t *testing.T) {
	for _, list := range forkedSlots() {
		for key := range int64(256) {
			x := taleOf(key, impl.NewTrail(list, key).Trail)
			s, there := slotBy(list, key)
			if x.there != there || x.value != s.Value {
				t.Fatalf("NewTrail(%v, %d) tells %v", list, key, x)
			}
			if got := x.clash(list); !noClash(got, impl.OK) {
				t.Fatalf("NewClash(%v, %v) = %#v", list, x, got)
			}
			// What is not so is not taken by that trail.
			if got := impl.NewClash(list, key, !there, 0, x.trail); !noClash(got, impl.ErrProof) {
				t.Fatalf("NewClash(%v, %d, %v, 0, %v) = %#v", list, key, !there, x.trail, got)
			}
			if got := impl.NewClash(list, key, there, s.Value+1, x.trail); !noClash(got, impl.ErrProof) {
				t.Fatalf("NewClash(%v, %d, %v, %d, %v) = %#v", list, key, there, s.Value+1, x.trail, got)
			}
		}
	}
}

// P9: a tale that is taken and is not so: in place of each node on the way another one of its sum, of its kind and of others.
func TestP9Lies(t *testing.T) {
	kinds := map[[2]byte]int{}
	deep := map[int]int{}
	for _, list := range fewTrees {
		root := impl.NewRoot(list).Value
		for _, key := range []int64{0, 1, 3, 4, 5, 6, 85, 127, 128, 170, 200, 255} {
			for _, x := range liesOf(list, key) {
				if !impl.AcceptNew(x.key, x.there, x.value, x.trail, root) {
					t.Fatalf("%v is not taken by %d", x.tale, root)
				}
				if got := x.clash(list); !isClashOf(got, x.told, x.is) || !impl.IsClash(got.Clash) {
					t.Fatalf("NewClash(%v, %v) = %#v, not %v, %v", list, x.tale, got, x.told, x.is)
				}
				seeTale(t, list, x.tale)
				kinds[[2]byte{x.told[0], x.is[0]}]++
				deep[len(x.trail.Forks)]++
			}
		}
	}
	for _, kind := range [][2]byte{{4, 4}, {5, 5}, {4, 5}, {5, 4}, {4, 9}, {5, 9}, {9, 4}, {9, 5}} {
		if kinds[kind] < 12 {
			t.Errorf("%d clashes of %v seen alone: %v", kinds[kind], kind, kinds)
		}
	}
	for n := range 9 {
		if deep[n] < 12 {
			t.Errorf("%d lies of %d forks seen alone: %v", deep[n], n, deep)
		}
	}
}

// P9: a fork of another bit, or of other sums, and one that is turned in both.
func TestP9ForkClashes(t *testing.T) {
	var sameBit, otherBit int
	for _, list := range fewTrees {
		for key := range int64(256) {
			if key%5 != 0 {
				continue
			}
			way := trailBy(list, key)
			pieces := trailPiecesBy(key, way)
			for at, fork := range way.Forks {
				low := int64(0)
				if at > 0 {
					low = way.Forks[at-1].Bit + 1
				}
				high := int64(8)
				if at+1 < len(way.Forks) {
					high = way.Forks[at+1].Bit
				}
				for bit := low; bit < high; bit++ {
					for _, other := range forksTo(key, bit, sumBack(pieces[at]), sumBack(pieces[at+1])) {
						if other == fork {
							continue
						}
						x := taleOf(key, turned(way, func(x *impl.Trail) { x.Forks[at] = other }))
						if got := x.clash(list); !isClashOf(got, trailPiecesBy(key, x.trail)[at+1], pieces[at+1]) {
							t.Fatalf("NewClash(%v, %v) = %#v", list, x, got)
						}
						seeTale(t, list, x)
						if bit == fork.Bit {
							sameBit++
						} else {
							otherBit++
						}
					}
				}
			}
		}
	}
	if sameBit < 50 || otherBit < 50 {
		t.Errorf("%d forks of the same bit, %d of another one seen alone", sameBit, otherBit)
	}
}

// P9: of two nodes that clash the one that is nearer to the root is told.
func TestP9FirstOnTheWay(t *testing.T) {
	two := 0
	for _, list := range fewTrees {
		for _, key := range []int64{0, 1, 4, 5, 85, 127, 128, 170, 255} {
			way := trailBy(list, key)
			pieces := trailPiecesBy(key, way)
			for _, below := range liesOf(list, key) {
				forks := below.trail.Forks
				for at, fork := range way.Forks {
					// The fork is in the lie too, with all above it, where that lies below.
					place := len(forks) - len(way.Forks) + at
					if place < 0 || forks[place] != fork || bytes.Equal(trailPiecesBy(key, below.trail)[place+1], below.told) {
						continue
					}
					for _, other := range forksTo(key, fork.Bit, sumBack(pieces[at]), sumBack(pieces[at+1])) {
						if other == fork {
							continue
						}
						x := taleOf(key, turned(below.trail, func(x *impl.Trail) { x.Forks[place] = other }))
						if got := x.clash(list); !isClashOf(got, trailPiecesBy(key, x.trail)[place+1], pieces[at+1]) {
							t.Fatalf("NewClash(%v, %v) = %#v", list, x, got)
						}
						two++
					}
				}
			}
		}
	}
	if two < 50 {
		t.Errorf("%d tales of two clashes seen alone", two)
	}
}

// P9: the leaf of a key, and one of the key beside it, with one sum: that a key is not there, and that it is.
func TestP9LeafClashes(t *testing.T) {
	for key := range int64(255) {
		is, other := impl.Slot{Key: key, Value: 200*256 + 50}, impl.Slot{Key: key + 1, Value: 61*256 + 50}
		near := impl.Slot{Key: key, Value: 199*256 + 189}
		for _, list := range [][]impl.Slot{nil, {{Key: key ^ 128, Value: 30}}, {{Key: key ^ 64, Value: 30}, {Key: key ^ 128, Value: 900}}} {
			for _, s := range []impl.Slot{is, other} {
				var with []impl.Slot
				for _, x := range append(slices.Clone(list), s) {
					with = putBy(with, x)
				}
				for _, asked := range []int64{is.Key, other.Key} {
					way := trailBy(with, asked)
					if way.Leaf != s {
						continue
					}
					for _, leaf := range []impl.Slot{is, other, near} {
						if leaf == s {
							continue
						}
						x := taleOf(asked, turned(way, func(x *impl.Trail) { x.Leaf = leaf }))
						if got := x.clash(with); !isClashOf(got, tagged(4, []int64{leaf.Key, leaf.Value}), tagged(4, []int64{s.Key, s.Value})) || !impl.IsClash(got.Clash) {
							t.Fatalf("NewClash(%v, %v) = %#v", with, x, got)
						}
					}
				}
			}
		}
	}
}

// P9: whatever trail is told of whatever key, it is not taken, or so, or there is a clash.
func TestP9NotSo(t *testing.T) {
	for _, list := range fewTrees {
		for key := range int64(256) {
			s, _ := slotBy(list, key)
			for _, x := range turnedTrails(list, key) {
				seeTale(t, list, taleOf(key, x))
				for _, there := range []bool{false, true} {
					seeTale(t, list, tale{key, there, s.Value, x})
					seeTale(t, list, tale{key, there, x.Leaf.Value, x})
				}
			}
		}
	}
}

// Slots that have a fault come ahead of the key, the key ahead of the trail, and that ahead of what is taken.
func TestNewClashCodes(t *testing.T) {
	way := trailBy(threeSlots, 5)
	for name, slots := range faultySlots() {
		if slots.code == impl.OK {
			continue
		}
		for _, key := range []int64{5, -1, 256} {
			for _, x := range faultyTrails() {
				if got := impl.NewClash(slots.list, key, true, -1, x.trail); !noClash(got, slots.code) {
					t.Fatalf("%s: NewClash(%v, %d, .., %v) = %#v, not code %d", name, slots.list, key, x.trail, got, slots.code)
				}
			}
			if got := impl.NewClash(slots.list, key, true, 30, way); !noClash(got, slots.code) {
				t.Fatalf("%s: NewClash(%v, %d) = %#v, not code %d", name, slots.list, key, got, slots.code)
			}
		}
	}
	for name, x := range faultyTrails() {
		for _, key := range noKeys {
			if got := impl.NewClash(threeSlots, key, false, 7, x.trail); !noClash(got, impl.ErrRange) {
				t.Fatalf("%s: NewClash of the key %d = %#v", name, key, got)
			}
		}
		want := x.code
		if want == impl.OK {
			want = impl.ErrProof
		}
		for _, told := range []tale{taleOf(5, x.trail), {5, false, 7, x.trail}, {5, true, -1, x.trail}} {
			if got := told.clash(threeSlots); !noClash(got, want) {
				t.Fatalf("%s: NewClash(%v) = %#v, not code %d", name, told, got, want)
			}
			seeTale(t, threeSlots, told)
		}
	}
	// A root that is not the same; and the root that is, of what is not taken.
	wrong := map[string]struct {
		list []impl.Slot
		tale
	}{
		"other slots":                {threeSlots[:2], taleOf(5, way)},
		"no slots":                   {nil, taleOf(5, way)},
		"nothing of some":            {threeSlots, taleOf(5, impl.Trail{})},
		"the way of another key":     {threeSlots, taleOf(4, way)},
		"another value":              {threeSlots, tale{5, true, 31, way}},
		"no sum":                     {threeSlots, tale{5, true, -1, way}},
		"not there, and it is":       {threeSlots, tale{5, false, 0, way}},
		"not there with its value":   {threeSlots, tale{5, false, 30, way}},
		"there, and it is not":       {threeSlots, tale{7, true, 30, way}},
		"there with 0, and it isn't": {threeSlots, tale{7, true, 0, way}},
		"not there, with a value":    {threeSlots, tale{7, false, 1, way}},
		"there, of no slots":         {nil, tale{5, true, 0, impl.Trail{}}},
		"the zero leaf of no slots":  {nil, tale{0, true, 0, impl.Trail{}}},
		"a value of no slots":        {nil, tale{5, false, 1, impl.Trail{}}},
		// Two pieces of one sum are there, but what is told by them is not taken.
		"a clash, another value":    {threeSlots, tale{4, true, 25829, anyTrail(impl.Slot{Key: 4, Value: 25828})}},
		"a clash, not there":        {threeSlots, tale{4, false, 0, anyTrail(impl.Slot{Key: 4, Value: 25828})}},
		"a clash, there elsewhere":  {threeSlots, tale{5, true, 25828, anyTrail(impl.Slot{Key: 4, Value: 25828})}},
		"a clash, not there with 1": {threeSlots, tale{5, false, 1, anyTrail(impl.Slot{Key: 4, Value: 25828})}},
	}
	for name, x := range wrong {
		if got := x.clash(x.list); !noClash(got, impl.ErrProof) {
			t.Errorf("%s: NewClash(%v, %v) = %#v", name, x.list, x.tale, got)
		}
		seeTale(t, x.list, x.tale)
	}
}

func TestSaidFaultCodes(t *testing.T) {
	path, way := make([]int64, 8), trailBy(threeSlots, 5)
	said := map[string]struct {
		impl.Said
		code int64
	}{
		"nothing":                             {impl.Said{}, impl.OK},
		"nothing, Old":                        {impl.Said{Old: true}, impl.OK},
		"by a path":                           {impl.Said{Old: true, There: true, Value: 30, Path: path}, impl.OK},
		"by a trail":                          {impl.Said{There: true, Value: 30, Trail: way}, impl.OK},
		"Old, Any":                            {impl.Said{Old: true, Trail: impl.Trail{Any: true}}, impl.ErrForm},
		"Old, the key of a leaf":              {impl.Said{Old: true, Trail: impl.Trail{Leaf: impl.Slot{Key: 1}}}, impl.ErrForm},
		"Old, the value of a leaf":            {impl.Said{Old: true, Trail: impl.Trail{Leaf: impl.Slot{Value: -1}}}, impl.ErrForm},
		"Old, a fork":                         {impl.Said{Old: true, Trail: impl.Trail{Forks: forksOf(3, 4)}}, impl.ErrForm},
		"Old, a fork that is zero":            {impl.Said{Old: true, Trail: impl.Trail{Forks: make([]impl.Fork, 1)}}, impl.ErrForm},
		"Old, all of a trail":                 {impl.Said{Old: true, Path: path, Trail: way}, impl.ErrForm},
		"Old, no forks in an empty list":      {impl.Said{Old: true, Path: path, Trail: impl.Trail{Forks: []impl.Fork{}}}, impl.OK},
		"not Old, a path":                     {impl.Said{Path: path, Trail: way}, impl.ErrForm},
		"not Old, a path of one":              {impl.Said{Path: path[:1]}, impl.ErrForm},
		"not Old, an empty path":              {impl.Said{Path: path[:0], Trail: way}, impl.OK},
		"Old, a path that is too long":        {impl.Said{Old: true, Path: make([]int64, 99)}, impl.OK},
		"not Old, a trail that has a fault":   {impl.Said{Trail: impl.Trail{Leaf: impl.Slot{Key: 256}}}, impl.OK},
		"there with 0":                        {impl.Said{There: true}, impl.OK},
		"there with MaxSum":                   {impl.Said{There: true, Value: 65520}, impl.OK},
		"there with -1":                       {impl.Said{There: true, Value: -1}, impl.ErrRange},
		"there with more":                     {impl.Said{There: true, Value: 65521}, impl.ErrRange},
		"Old, there with more":                {impl.Said{Old: true, There: true, Value: 65521}, impl.ErrRange},
		"not there with 1":                    {impl.Said{Value: 1}, impl.ErrRange},
		"not there with -1":                   {impl.Said{Value: -1}, impl.ErrRange},
		"Old, not there with 1":               {impl.Said{Old: true, Value: 1, Path: path}, impl.ErrRange},
		"not there with more":                 {impl.Said{Value: 65521}, impl.ErrRange},
		"Old, a trail, no sum":                {impl.Said{Old: true, There: true, Value: -1, Trail: way}, impl.ErrForm},
		"not Old, a path, not there with 1":   {impl.Said{Value: 1, Path: path}, impl.ErrForm},
		"Old, a trail and a path, a value":    {impl.Said{Old: true, Value: 1, Path: path, Trail: way}, impl.ErrForm},
		"not Old, a trail and a path, no sum": {impl.Said{There: true, Value: 65521, Path: path, Trail: way}, impl.ErrForm},
	}
	for name, x := range said {
		if got := impl.SaidFault(x.Said); got != x.code {
			t.Errorf("%s: SaidFault(%v) = %d, not %d", name, x.Said, got, x.code)
		}
		if got := saidCode(x.Said); got != x.code {
			t.Errorf("%s: the words said over again tell %d", name, got)
		}
	}
}

// Old and There, each way, beside each value, paths and trails, in each part.
func TestSaidFaultSweep(t *testing.T) {
	for _, value := range slices.Concat(sumEdges, noSums) {
		for _, path := range [][]int64{nil, {}, {0}, make([]int64, 8), {-1, 70000}} {
			for _, trail := range someTrails() {
				for n := range 4 {
					s := impl.Said{Old: n%2 == 1, There: n >= 2, Value: value, Path: path, Trail: trail}
					if got, want := impl.SaidFault(s), saidCode(s); got != want {
						t.Fatalf("SaidFault(%v) = %d, not %d", s, got, want)
					}
				}
			}
		}
	}
	for value := int64(-300); value <= 66000; value++ {
		there, none := impl.SaidFault(impl.Said{There: true, Value: value}), impl.SaidFault(impl.Said{Old: true, Value: value})
		if (there == impl.OK) != (value >= 0 && value <= 65520) || (none == impl.OK) != (value == 0) {
			t.Fatalf("SaidFault of %d: %d, %d", value, there, none)
		}
	}
}

// P9: what both trees show of every key, whichever comes first, is one story, and no clash.
func TestP9BothShown(t *testing.T) {
	for _, list := range slices.Concat(fewTrees, fewLists) {
		levels := oldLevels(list)
		for key := range int64(256) {
			byOld, byNew := storyOf(list, levels, key).said(), taleOf(key, trailBy(list, key)).said()
			for _, x := range [][2]impl.Said{{byOld, byNew}, {byNew, byOld}, {byOld, byOld}, {byNew, byNew}} {
				if got := impl.BothClash(list, key, x[0], x[1]); !noClash(got, impl.OK) {
					t.Fatalf("BothClash(%v, %d, %v, %v) = %#v", list, key, x[0], x[1], got)
				}
			}
		}
	}
}

// takenStories: stories of key that are taken, so and not so, by both trees.
func takenStories(list []impl.Slot, key int64) []impl.Said {
	levels := oldLevels(list)
	is := storyOf(list, levels, key)
	out := []impl.Said{is.said(), taleOf(key, trailBy(list, key)).said()}
	for level := range 8 {
		for _, lie := range []story{is, {key: key, there: true, value: 4321}} {
			for _, x := range forged(levels, lie, level) {
				if !slices.Equal(x.path, is.path) {
					out = append(out, x.said())
				}
			}
		}
	}
	for at, x := range liesOf(list, key) {
		if at%7 == 0 {
			out = append(out, x.said())
		}
	}
	return out
}

// P9: two stories of one key that are both taken are one, or there is a clash: that of the first, if it has one, else that of the second.
func TestP9TwoStories(t *testing.T) {
	seen := map[string]int{}
	for _, list := range [][]impl.Slot{nil, keysOf(5), threeSlots, run(12, 3, 22)} {
		for _, key := range []int64{0, 5, 25, 255} {
			taken := takenStories(list, key)
			alone := func(s impl.Said) impl.ClashResult {
				if s.Old {
					return impl.OldClash(list, key, s.There, s.Value, s.Path)
				}
				return impl.NewClash(list, key, s.There, s.Value, s.Trail)
			}
			for _, a := range taken {
				for _, b := range taken {
					got, ofA, ofB := impl.BothClash(list, key, a, b), alone(a), alone(b)
					switch {
					case ofA.Clash.Found && ofB.Clash.Found:
						seen["both"]++
					case ofA.Clash.Found:
						seen["first"]++
					case ofB.Clash.Found:
						seen["second"]++
					default:
						seen["none"]++
					}
					want := ofA
					if !want.Clash.Found {
						want = ofB
					}
					if !sameClash(got, want) || impl.IsClash(got.Clash) != got.Clash.Found {
						t.Fatalf("BothClash(%v, %d, %v, %v) = %#v, not %#v", list, key, a, b, got, want)
					}
					if (a.There != b.There || a.Value != b.Value) && !got.Clash.Found {
						t.Fatalf("BothClash(%v, %d, %v, %v) = %#v, and they are two", list, key, a, b, got)
					}
					if a.Old != b.Old {
						seen["two trees"]++
					}
				}
			}
		}
	}
	for _, kind := range []string{"both", "first", "second", "none", "two trees"} {
		if seen[kind] < 50 {
			t.Errorf("%s: %d seen alone", kind, seen[kind])
		}
	}
}

// someSaid: what may be said of the key 5 of threeSlots: so, not taken, with each code, and with a clash.
func someSaid() []impl.Said {
	levels := oldLevels(threeSlots)
	is, way := storyOf(threeSlots, levels, 5), trailBy(threeSlots, 5)
	told := is.said()
	lies := forged(levels, story{key: 5, there: true, value: 4321}, 2)
	out := []impl.Said{
		told, taleOf(5, way).said(), lies[0].said(), taleOf(5, anyTrail(impl.Slot{Key: 4, Value: 25828})).said(),
		{Old: true, There: true, Value: 30, Path: is.path[:7]}, {Old: true, There: true, Value: 31, Path: is.path}, is.with(3, 65521).said(),
		{There: true, Value: 30, Trail: turned(way, func(x *impl.Trail) { x.Leaf.Key = 256 })},
		{There: true, Value: 30, Trail: turned(way, func(x *impl.Trail) { x.Forks[1].Bit = 0 })},
		{There: true, Value: 30, Trail: turned(way, func(x *impl.Trail) { x.Forks = slices.Repeat(x.Forks, 5) })},
		{There: true, Value: 31, Trail: way}, {Trail: way}, {}, {Old: true},
		{Old: true, There: true, Value: 30, Path: is.path, Trail: impl.Trail{Any: true}},
		{There: true, Value: 30, Path: is.path, Trail: way},
		{Old: true, There: true, Value: -1, Path: is.path}, {Value: 7, Trail: way},
		{Old: true, Value: 7, Trail: way},
	}
	return out
}

// The faults of the first come ahead of those of the second, both ahead of the codes of the first, and these ahead of those of the second.
func TestBothClashCodes(t *testing.T) {
	is := storyOf(threeSlots, oldLevels(threeSlots), 5)
	byOld, byNew := is.said(), taleOf(5, trailBy(threeSlots, 5)).said()
	form, scope := impl.Said{Old: true, Trail: byNew.Trail}, impl.Said{There: true, Value: -1}
	short, high := impl.Said{Old: true, There: true, Value: 30, Path: is.path[:7]}, is.with(3, 65521).said()
	other := impl.Said{There: true, Value: 31, Trail: byNew.Trail}
	twice := impl.Said{There: true, Value: 30, Trail: turned(byNew.Trail, func(x *impl.Trail) { x.Forks[1].Bit = 0 })}
	nine := impl.Said{There: true, Value: 30, Trail: impl.Trail{Any: true, Forks: make([]impl.Fork, 9)}}
	falls := []impl.Slot{{Key: 5}, {Key: 4}}
	codes := map[string]struct {
		list []impl.Slot
		key  int64
		a    impl.Said
		b    impl.Said
		code int64
	}{
		"all is right":                            {threeSlots, 5, byOld, byNew, impl.OK},
		"the form of a":                           {threeSlots, 5, form, byNew, impl.ErrForm},
		"the form of b":                           {threeSlots, 5, byNew, form, impl.ErrForm},
		"the range of a":                          {threeSlots, 5, scope, byOld, impl.ErrRange},
		"the range of b":                          {threeSlots, 5, byOld, scope, impl.ErrRange},
		"the form of a, the range of b":           {threeSlots, 5, form, scope, impl.ErrForm},
		"the range of a, the form of b":           {threeSlots, 5, scope, form, impl.ErrRange},
		"a path that is too short, the form of b": {threeSlots, 5, short, form, impl.ErrForm},
		"the form of a, a path that is too short": {threeSlots, 5, form, short, impl.ErrForm},
		"slots that fall, the range of b":         {falls, 5, byOld, scope, impl.ErrRange},
		"slots that fall, a path too short":       {falls, 5, short, high, impl.ErrForm},
		"slots that fall, the key":                {falls, 256, byNew, byOld, impl.ErrForm},
		"the key of 256":                          {threeSlots, 256, byNew, byOld, impl.ErrRange},
		"the key of 256, by the old one":          {threeSlots, 256, short, twice, impl.ErrRange},
		"the key below 0":                         {threeSlots, -1, twice, short, impl.ErrRange},
		"the key below 0, the form of b":          {threeSlots, -1, byOld, form, impl.ErrForm},
		"a path of a too short, one of b no sum":  {threeSlots, 5, short, high, impl.ErrProof},
		"no sum in a, b too short":                {threeSlots, 5, high, short, impl.ErrRange},
		"a bit twice in a, b not taken":           {threeSlots, 5, twice, other, impl.ErrForm},
		"a not taken, a bit twice in b":           {threeSlots, 5, other, twice, impl.ErrProof},
		"nine forks in a, a bit twice in b":       {threeSlots, 5, nine, twice, impl.ErrMany},
		"a bit twice in a, nine forks in b":       {threeSlots, 5, twice, nine, impl.ErrForm},
		"a is right, b not taken":                 {threeSlots, 5, byOld, other, impl.ErrProof},
		"a is right, no sum in b":                 {threeSlots, 5, byNew, high, impl.ErrRange},
		"of another key":                          {threeSlots, 4, byOld, byNew, impl.ErrProof},
		"of other slots":                          {threeSlots[:2], 5, byNew, byOld, impl.ErrProof},
		"of no slots":                             {nil, 5, byNew, byOld, impl.ErrProof},
		"nothing of no slots, b not taken":        {nil, 5, impl.Said{}, byOld, impl.ErrProof},
		"nothing of no slots, by the old one":     {nil, 5, impl.Said{}, impl.Said{Old: true}, impl.ErrProof},
		"nothing of no slots, twice":              {nil, 5, impl.Said{}, impl.Said{}, impl.OK},
	}
	for name, x := range codes {
		if got := impl.BothClash(x.list, x.key, x.a, x.b); !noClash(got, x.code) {
			t.Errorf("%s: BothClash(%v, %d, %v, %v) = %#v, not code %d", name, x.list, x.key, x.a, x.b, got, x.code)
		}
		if got := bothClashBy(x.list, x.key, x.a, x.b); got.Code != x.code {
			t.Errorf("%s: the words said over again tell %d", name, got.Code)
		}
	}
	// A clash of the first does not stand ahead of a code of the second.
	for _, s := range someSaid() {
		if code := bothClashBy(threeSlots, 5, byOld, s).Code; code != impl.OK {
			if got := impl.BothClash(threeSlots, 5, someSaid()[3], s); !noClash(got, code) {
				t.Errorf("BothClash of a clash and %v = %#v, not code %d", s, got, code)
			}
		}
	}
}

func TestBothClashSweep(t *testing.T) {
	codes := map[int64]int{}
	lists := [][]impl.Slot{threeSlots, nil, {{Key: 5}, {Key: 4}}, {{Key: 256}}, run(13, 0, 1)}
	for _, list := range lists {
		for _, key := range []int64{5, 4, -1, 256} {
			for _, a := range someSaid() {
				for _, b := range someSaid() {
					got, want := impl.BothClash(list, key, a, b), bothClashBy(list, key, a, b)
					if !sameClash(got, want) {
						t.Fatalf("BothClash(%v, %d, %v, %v) = %#v, not %#v", list, key, a, b, got, want)
					}
					codes[got.Code]++
				}
			}
		}
	}
	for _, code := range []int64{impl.OK, impl.ErrForm, impl.ErrMany, impl.ErrRange, impl.ErrProof} {
		if codes[code] == 0 {
			t.Errorf("the code %d is never seen: %v", code, codes)
		}
	}
}

func TestTreeClashExamples(t *testing.T) {
	trees := []struct {
		a     []impl.Slot
		b     []impl.Slot
		told  []byte
		other []byte
	}{
		{nil, []impl.Slot{{Key: 0, Value: 5836}}, []byte{9}, []byte{4, 0, 0, 22, 204}},
		{nil, []impl.Slot{{Key: 1, Value: 3}, {Key: 5, Value: 2236}}, []byte{9}, []byte{5, 0, 2, 69, 215, 120, 219}},
		{[]impl.Slot{{Key: 0, Value: 5836}}, []impl.Slot{{Key: 1, Value: 3}, {Key: 5, Value: 2236}}, []byte{4, 0, 0, 22, 204}, []byte{5, 0, 2, 69, 215, 120, 219}},
		{threeSlots, []impl.Slot{{Key: 4, Value: 25828}}, []byte{5, 0, 2, 69, 222, 254, 17}, []byte{4, 0, 4, 100, 228}},
		{[]impl.Slot{{Key: 1, Value: 1}, {Key: 2, Value: 3776}}, []impl.Slot{{Key: 1, Value: 10}, {Key: 5, Value: 20}}, []byte{5, 0, 1, 69, 213, 153, 167}, []byte{5, 0, 2, 69, 222, 115, 219}},
		{[]impl.Slot{{Key: 5, Value: 200}}, []impl.Slot{{Key: 5, Value: 317}}, []byte{4, 0, 5, 0, 200}, []byte{4, 0, 5, 1, 61}},
		{[]impl.Slot{{Key: 5, Value: 200}, {Key: 9, Value: 200}}, []impl.Slot{{Key: 5, Value: 200}, {Key: 9, Value: 317}}, []byte{4, 0, 9, 0, 200}, []byte{4, 0, 9, 1, 61}},
		{[]impl.Slot{{Key: 5, Value: 200}, {Key: 9, Value: 200}}, []impl.Slot{{Key: 5, Value: 317}, {Key: 9, Value: 317}}, []byte{4, 0, 5, 0, 200}, []byte{4, 0, 5, 1, 61}},
	}
	for _, x := range trees {
		if got := impl.TreeClash(x.a, x.b); !isClashOf(got, x.told, x.other) || !impl.IsClash(got.Clash) {
			t.Errorf("TreeClash(%v, %v) = %#v, not %v, %v", x.a, x.b, got, x.told, x.other)
		}
		if got := impl.TreeClash(x.b, x.a); !isClashOf(got, x.other, x.told) {
			t.Errorf("TreeClash(%v, %v) = %#v, not %v, %v", x.b, x.a, got, x.other, x.told)
		}
		seeTrees(t, x.a, x.b)
	}
}

func TestOldTreeClashExamples(t *testing.T) {
	trees := []struct {
		a     []impl.Slot
		b     []impl.Slot
		told  []byte
		other []byte
	}{
		{nil, []impl.Slot{{Key: 0, Value: 53932}}, nil, []byte{3, 0, 0, 210, 172}},
		{[]impl.Slot{{Key: 5, Value: 200}}, []impl.Slot{{Key: 5, Value: 317}}, []byte{3, 0, 5, 0, 200}, []byte{3, 0, 5, 1, 61}},
		{[]impl.Slot{{Key: 0, Value: 7}}, []impl.Slot{{Key: 0}, {Key: 1, Value: 32381}}, []byte{2, 141, 83, 0, 13}, []byte{2, 141, 76, 29, 187}},
		{[]impl.Slot{{Key: 0, Value: 7}}, []impl.Slot{{Key: 0}, {Key: 1, Value: 32498}}, []byte{2, 141, 83, 0, 13}, []byte{2, 141, 76, 30, 48}},
		{[]impl.Slot{{Key: 5, Value: 200}, {Key: 255, Value: 200}}, []impl.Slot{{Key: 5, Value: 200}, {Key: 255, Value: 317}}, []byte{3, 0, 255, 0, 200}, []byte{3, 0, 255, 1, 61}},
		{[]impl.Slot{{Key: 5, Value: 200}, {Key: 255, Value: 200}}, []impl.Slot{{Key: 5, Value: 317}, {Key: 255, Value: 317}}, []byte{3, 0, 5, 0, 200}, []byte{3, 0, 5, 1, 61}},
	}
	for _, x := range trees {
		if got := impl.OldTreeClash(x.a, x.b); !isClashOf(got, x.told, x.other) || !impl.IsClash(got.Clash) {
			t.Errorf("OldTreeClash(%v, %v) = %#v, not %v, %v", x.a, x.b, got, x.told, x.other)
		}
		if got := impl.OldTreeClash(x.b, x.a); !isClashOf(got, x.other, x.told) {
			t.Errorf("OldTreeClash(%v, %v) = %#v, not %v, %v", x.b, x.a, got, x.other, x.told)
		}
		seeTrees(t, x.a, x.b)
	}
}

// P9: slots and the same slots have no clash, in the same memory and in another one.
func TestP9SameTrees(t *testing.T) {
	for _, list := range forkedSlots() {
		for _, same := range [][]impl.Slot{list, slices.Clone(list)} {
			if got := impl.TreeClash(list, same); !noClash(got, impl.OK) {
				t.Fatalf("TreeClash(%v, %v) = %#v", list, same, got)
			}
			if got := impl.OldTreeClash(list, same); !noClash(got, impl.OK) {
				t.Fatalf("OldTreeClash(%v, %v) = %#v", list, same, got)
			}
		}
	}
	for key := range int64(256) {
		list := []impl.Slot{{Key: key, Value: 65520 - key}}
		seeTrees(t, list, slices.Clone(list))
	}
}

// twins: sets of none to three slots of keys from first on that are not the same, each two of one root, by what root tells.
func twins(first int64, root func(list []impl.Slot) int64) [][2][]impl.Slot {
	seed := first*7 + 3
	next := func(below int64) int64 {
		seed = (seed*48271 + 11) % 2147483647
		return seed / 8 % below
	}
	byRoot := map[int64][]impl.Slot{}
	var pairs [][2][]impl.Slot
	for range 5000 {
		list := []impl.Slot{}
		for range next(4) {
			list = putBy(list, impl.Slot{Key: first + next(16), Value: next(65521)})
		}
		was, there := byRoot[root(list)]
		if there && !slices.Equal(was, list) {
			pairs = append(pairs, [2][]impl.Slot{was, list}, [2][]impl.Slot{list, was})
		}
		byRoot[root(list)] = list
	}
	return pairs
}

// merged: a and b, whose keys rise from the one to the other.
func merged(a []impl.Slot, b ...impl.Slot) []impl.Slot {
	return slices.Concat(a, b)
}

// P9: two sets of slots of one root of the new tree have two pieces of one sum: of forks of one bit, of two bits, of leaves, of both, and of nothing.
func TestP9TwinTrees(t *testing.T) {
	seen := map[string]int{}
	for _, first := range []int64{0, 128} {
		for _, pair := range twins(first, newRootBy) {
			got := impl.TreeClash(pair[0], pair[1])
			if got.Code != impl.OK || !got.Clash.Found || !impl.IsClash(got.Clash) {
				t.Fatalf("TreeClash(%v, %v) = %#v", pair[0], pair[1], got)
			}
			seeTrees(t, pair[0], pair[1])
			a, b := got.Clash.A, got.Clash.B
			if bytes.Equal(a, nodeBy(pair[0])) {
				seen["root"]++
			} else {
				seen["below"]++
			}
			switch {
			case a[0] == 5 && b[0] == 5 && a[2] == b[2]:
				seen["forks of one bit"]++
			case a[0] == 5 && b[0] == 5:
				seen["forks of two bits"]++
			case a[0] == b[0]:
				seen["leaves"]++
			default:
				seen["two kinds"]++
			}
		}
	}
	for _, kind := range []string{"root", "forks of one bit", "forks of two bits", "leaves", "two kinds"} {
		if seen[kind] < 10 {
			t.Errorf("%s: %d seen alone: %v", kind, seen[kind], seen)
		}
	}
}

// P9: a clash below forks that are the same: on the side of 0, on that of 1, and, with one on both, on that of 0, however deep it is.
func TestP9TwinSides(t *testing.T) {
	some := func(pairs [][2][]impl.Slot) [][2][]impl.Slot {
		return slices.DeleteFunc(pairs, func(x [2][]impl.Slot) bool { return len(x[0]) == 0 || len(x[1]) == 0 })
	}
	lows, highs := some(twins(0, newRootBy)), some(twins(128, newRootBy))
	if len(lows) < 50 || len(highs) < 50 {
		t.Fatalf("%d and %d twins alone", len(lows), len(highs))
	}
	middle, last := impl.Slot{Key: 64, Value: 640}, impl.Slot{Key: 255, Value: 2550}
	for at, low := range lows {
		high := highs[at%len(highs)]
		lists := []struct {
			a, b []impl.Slot
			want impl.ClashResult
		}{
			{merged(low[0], last), merged(low[1], last), impl.TreeClash(low[0], low[1])},
			{merged(low[0], middle, last), merged(low[1], middle, last), impl.TreeClash(low[0], low[1])},
			{merged(low[0], high[0]...), merged(low[1], high[0]...), impl.TreeClash(low[0], low[1])},
			{merged(low[0], high[0]...), merged(low[0], high[1]...), impl.TreeClash(high[0], high[1])},
			{merged([]impl.Slot{middle}, high[0]...), merged([]impl.Slot{middle}, high[1]...), impl.TreeClash(high[0], high[1])},
			{merged(low[0], high[0]...), merged(low[1], high[1]...), impl.TreeClash(low[0], low[1])},
			{merged(merged(low[0], middle), high[0]...), merged(merged(low[1], middle), high[1]...), impl.TreeClash(low[0], low[1])},
		}
		for _, x := range lists {
			if !x.want.Clash.Found {
				t.Fatalf("%v are no twins", low)
			}
			if got := impl.TreeClash(x.a, x.b); !isClashOf(got, x.want.Clash.A, x.want.Clash.B) {
				t.Fatalf("TreeClash(%v, %v) = %#v, not %#v", x.a, x.b, got, x.want)
			}
			seeTrees(t, x.a, x.b)
		}
	}
}

// P9: two sets of slots of one root of the old tree have two pieces of one sum, on each level.
func TestP9OldTwins(t *testing.T) {
	var seen [9]int
	for _, first := range []int64{0, 112, 128, 240} {
		for _, pair := range twins(first, func(list []impl.Slot) int64 { return impl.OldRoot(list).Value }) {
			got := impl.OldTreeClash(pair[0], pair[1])
			want, level := oldTreeClashBy(pair[0], pair[1])
			if !isClashOf(got, want.Clash.A, want.Clash.B) || !impl.IsClash(got.Clash) {
				t.Fatalf("OldTreeClash(%v, %v) = %#v, not %#v", pair[0], pair[1], got, want)
			}
			seen[level]++
			seeTrees(t, pair[0], pair[1])
		}
	}
	for level, n := range seen[1:] {
		if n < 10 {
			t.Errorf("%d clashes of level %d seen alone: %v", n, level+1, seen)
		}
	}
}

// P9: of two halves the first one is told, however deep its clash is, and whatever the other one has.
func TestP9OldTwinHalves(t *testing.T) {
	half := func(at int) func(list []impl.Slot) int64 {
		return func(list []impl.Slot) int64 { return oldLevels(list)[7][at] }
	}
	lows, highs := twins(96, half(0)), twins(160, half(1))
	if len(lows) < 50 || len(highs) < 50 {
		t.Fatalf("%d and %d twins alone", len(lows), len(highs))
	}
	for at, low := range lows {
		high := highs[at%len(highs)]
		first, other := impl.OldTreeClash(low[0], low[1]), impl.OldTreeClash(high[0], high[1])
		if !first.Clash.Found || !other.Clash.Found {
			t.Fatalf("%v, %v are no twins", low, high)
		}
		if got := impl.OldTreeClash(merged(low[0], high[0]...), merged(low[1], high[1]...)); !sameClash(got, first) {
			t.Fatalf("OldTreeClash of %v, %v = %#v, not %#v", low, high, got, first)
		}
		if got := impl.OldTreeClash(merged(low[0], high[0]...), merged(low[0], high[1]...)); !sameClash(got, other) {
			t.Fatalf("OldTreeClash of %v, %v = %#v, not %#v", low[0], high, got, other)
		}
		seeTrees(t, merged(low[0], high[0]...), merged(low[1], high[1]...))
	}
}

// P9: of each key, a leaf of another value, and one where there is none; of two of them the lower key.
func TestP9OldLeaves(t *testing.T) {
	for key := range int64(256) {
		rest := slices.DeleteFunc(run(11, 2, 23), func(s impl.Slot) bool { return s.Key == key })
		a, b := putBy(rest, impl.Slot{Key: key, Value: 200}), putBy(rest, impl.Slot{Key: key, Value: 317})
		wantA, wantB := tagged(3, []int64{key, 200}), tagged(3, []int64{key, 317})
		if got := impl.OldTreeClash(a, b); !isClashOf(got, wantA, wantB) {
			t.Fatalf("OldTreeClash(%v, %v) = %#v", a, b, got)
		}
		if got := impl.TreeClash(a, b); !isClashOf(got, tagged(4, []int64{key, 200}), tagged(4, []int64{key, 317})) {
			t.Fatalf("TreeClash(%v, %v) = %#v", a, b, got)
		}
		none := numbersTo(13, func(n int64) int64 { return sumBack(tagged(3, []int64{key, n})) })
		for _, value := range none {
			leaf := tagged(3, []int64{key, value})
			with := putBy(rest, impl.Slot{Key: key, Value: value})
			if got := impl.OldTreeClash(rest, with); !isClashOf(got, nil, leaf) {
				t.Fatalf("OldTreeClash(%v, %v) = %#v", rest, with, got)
			}
			if got := impl.OldTreeClash(with, rest); !isClashOf(got, leaf, nil) {
				t.Fatalf("OldTreeClash(%v, %v) = %#v", with, rest, got)
			}
		}
		for _, other := range []int64{0, key ^ 1, key ^ 128, 255 - key, 255} {
			if other == key {
				continue
			}
			a := putBy([]impl.Slot{{Key: key, Value: 200}}, impl.Slot{Key: other, Value: 450})
			b := putBy([]impl.Slot{{Key: key, Value: 317}}, impl.Slot{Key: other, Value: 567})
			if got := impl.OldTreeClash(a, b); !isClashOf(got, tagged(3, []int64{a[0].Key, a[0].Value}), tagged(3, []int64{b[0].Key, b[0].Value})) {
				t.Fatalf("OldTreeClash(%v, %v) = %#v", a, b, got)
			}
			if got := impl.TreeClash(a, b); !isClashOf(got, tagged(4, []int64{a[0].Key, a[0].Value}), tagged(4, []int64{b[0].Key, b[0].Value})) {
				t.Fatalf("TreeClash(%v, %v) = %#v", a, b, got)
			}
		}
	}
}

// The fault of the first slots comes ahead of that of the second, and both ahead of the roots.
func TestTreeClashCodes(t *testing.T) {
	see := func(name string, a []impl.Slot, b []impl.Slot, code int64) {
		t.Helper()
		if got := impl.TreeClash(a, b); !noClash(got, code) {
			t.Errorf("%s: TreeClash(%v, %v) = %#v, not code %d", name, a, b, got, code)
		}
		if got := impl.OldTreeClash(a, b); !noClash(got, code) {
			t.Errorf("%s: OldTreeClash(%v, %v) = %#v, not code %d", name, a, b, got, code)
		}
	}
	for name, x := range faultySlots() {
		if x.code == impl.OK {
			continue
		}
		see(name, x.list, x.list, x.code)
		for _, list := range fewTrees {
			see(name, x.list, list, x.code)
			see(name, list, x.list, x.code)
		}
		for other, y := range faultySlots() {
			if y.code != impl.OK {
				see(name+", then "+other, x.list, y.list, x.code)
			}
		}
	}
	lists := [][]impl.Slot{nil, {{}}, keysOf(5), keysOf(6), threeSlots, threeSlots[:2], threeSlots[1:], run(12, 3, 22), run(11, 3, 22), run(12, 122, 1)}
	for at, a := range lists {
		for other, b := range lists {
			if at != other {
				see("other slots", a, b, impl.ErrProof)
			}
		}
	}
	// One root of the two is the same, the other one is not.
	if a, b := []impl.Slot(nil), []impl.Slot{{Key: 0, Value: 5836}}; !noClash(impl.OldTreeClash(a, b), impl.ErrProof) || !impl.TreeClash(a, b).Clash.Found {
		t.Errorf("%v, %v: %#v, %#v", a, b, impl.TreeClash(a, b), impl.OldTreeClash(a, b))
	}
	if a, b := []impl.Slot(nil), []impl.Slot{{Key: 0, Value: 53932}}; !noClash(impl.TreeClash(a, b), impl.ErrProof) || !impl.OldTreeClash(a, b).Clash.Found {
		t.Errorf("%v, %v: %#v, %#v", a, b, impl.TreeClash(a, b), impl.OldTreeClash(a, b))
	}
}

// asked: all that the functions of chapter 8 are handed at once; a tale and its key is what a of them says.
type asked struct {
	list  []impl.Slot
	other []impl.Slot
	key   int64
	a     impl.Said
	b     impl.Said
}

func (x asked) answers() []impl.ClashResult {
	return []impl.ClashResult{
		impl.NewClash(x.list, x.key, x.a.There, x.a.Value, x.a.Trail), impl.BothClash(x.list, x.key, x.a, x.b),
		impl.BothClash(x.list, x.key, x.b, x.a), impl.TreeClash(x.list, x.other), impl.OldTreeClash(x.list, x.other),
	}
}

// ask: all answers of chapter 8, laid in one text, with a mark between.
func (x asked) ask() string {
	out := [][]byte{tagged(1, []int64{impl.SaidFault(x.a), impl.SaidFault(x.b)})}
	for _, got := range x.answers() {
		out = append(out, tagged(byte64(got.Clash.Found), []int64{got.Code}), got.Clash.A, got.Clash.B)
	}
	return string(bytes.Join(out, []byte("|")))
}

// withRoom: the same values, in memory that has something ahead and behind; and whether that is as it was.
func (x asked) withRoom() (asked, func() bool) {
	slotRoom, forkRoom, sumRoom := []impl.Slot{{Key: 7, Value: 70}, {Key: -9, Value: -90}}, forksOf(-9, 70000, 3, 5), []int64{70000, 6}
	var same []func() bool
	slots := func(list []impl.Slot) []impl.Slot {
		room := slices.Concat(slotRoom, list, slotRoom)
		was := slices.Clone(room)
		same = append(same, func() bool { return slices.Equal(room, was) })
		return room[2 : 2+len(list)]
	}
	said := func(s impl.Said) impl.Said {
		forks, sums := slices.Concat(forkRoom, s.Trail.Forks, forkRoom), slices.Concat(sumRoom, s.Path, sumRoom)
		forksWere, sumsWere := slices.Clone(forks), slices.Clone(sums)
		same = append(same, func() bool { return slices.Equal(forks, forksWere) && slices.Equal(sums, sumsWere) })
		s.Trail.Forks, s.Path = forks[2:2+len(s.Trail.Forks)], sums[2:2+len(s.Path)]
		return s
	}
	given := asked{slots(x.list), slots(x.other), x.key, said(x.a), said(x.b)}
	return given, func() bool {
		return !slices.ContainsFunc(same, func(is func() bool) bool { return !is() })
	}
}

// someAsked: with clashes of each kind, without one, and with codes.
func someAsked() []asked {
	var out []asked
	said := someSaid()
	for at, a := range said {
		for _, b := range []impl.Said{said[0], said[1], said[2], said[(at+3)%len(said)]} {
			out = append(out, asked{threeSlots, threeSlots, 5, a, b}, asked{threeSlots, []impl.Slot{{Key: 4, Value: 25828}}, 5, a, b}, asked{run(13, 0, 1), nil, 256, a, b})
		}
	}
	for _, list := range fewTrees {
		for _, key := range []int64{0, 5, 128} {
			taken := takenStories(list, key)
			leaf := leavesTo(key, newRootBy(list))
			for at, a := range taken {
				out = append(out, asked{list, leaf[:min(len(leaf), 1)], key, a, taken[at/2]})
			}
		}
	}
	for _, pair := range twins(0, newRootBy)[:20] {
		out = append(out, asked{pair[0], pair[1], 5, taleOf(5, trailBy(pair[0], 5)).said(), said[0]})
	}
	for _, pair := range twins(0, func(list []impl.Slot) int64 { return oldLevels(list)[8][0] })[:20] {
		out = append(out, asked{pair[0], pair[1], 5, storyOf(pair[0], oldLevels(pair[0]), 5).said(), said[1]})
	}
	return out
}

// P1: what is handed in is as it was, with the room around it; and that room is not looked at.
func TestP1ExtractArgumentsStay(t *testing.T) {
	for _, x := range someAsked() {
		given, stays := x.withRoom()
		if got, want := given.ask(), x.ask(); got != want {
			t.Fatalf("%v with room behind: %q, not %q", x, got, want)
		}
		if !stays() {
			t.Fatalf("%v: its arguments were turned: %v", x, given)
		}
		// Both of one memory.
		given.other, given.b = given.list, given.a
		given.ask()
		if !stays() {
			t.Fatalf("%v: its arguments were turned, one handed in twice: %v", x, given)
		}
	}
}

// P1: what comes back shares no memory with what was handed in, nor with another answer, nor within itself.
func TestP1ExtractAnswersAreNew(t *testing.T) {
	spoil := func(piece []byte) {
		for at := range piece[:cap(piece)] {
			piece[:cap(piece)][at] = 99
		}
	}
	var clashes [5]int
	for _, x := range someAsked() {
		given, stays := x.withRoom()
		want := given.ask()
		first, second, kept := given.answers(), given.answers(), given.answers()
		for at, got := range first {
			if !got.Clash.Found {
				continue
			}
			clashes[at]++
			spoil(got.Clash.A)
			if !bytes.Equal(got.Clash.B, second[at].Clash.B) {
				t.Fatalf("%v: both pieces of a clash share: %#v", x, got)
			}
			spoil(got.Clash.B)
			if !sameClash(second[at], kept[at]) {
				t.Fatalf("%v: two clashes share: %#v", x, second[at])
			}
		}
		if !stays() || given.ask() != want {
			t.Fatalf("%v: an answer shares with what was handed in", x)
		}
	}
	for at, n := range clashes {
		if n < 10 {
			t.Errorf("%d clashes of number %d seen alone", n, at)
		}
	}
}

// P1: nil and an empty list are the same value.
func TestP1ExtractEmptyLists(t *testing.T) {
	for _, x := range someAsked() {
		empty := x
		for _, list := range []*[]impl.Slot{&empty.list, &empty.other} {
			if len(*list) == 0 {
				*list = make([]impl.Slot, 0, 5)
			}
		}
		for _, s := range []*impl.Said{&empty.a, &empty.b} {
			if len(s.Path) == 0 {
				s.Path = make([]int64, 0, 5)
			}
			if len(s.Trail.Forks) == 0 {
				s.Trail.Forks = make([]impl.Fork, 0, 5)
			}
		}
		if got, want := empty.ask(), x.ask(); got != want {
			t.Fatalf("%v of empty lists: %q, not %q", x, got, want)
		}
	}
}

func TestP1ExtractHangsOnArguments(t *testing.T) {
	all := someAsked()
	var first []string
	for _, x := range all {
		first = append(first, x.ask())
	}
	// The other way round the second time, so that something kept would show.
	for at, was := range slices.Backward(first) {
		if is := all[at].ask(); is != was {
			t.Fatalf("%v: %q, then %q", all[at], was, is)
		}
	}
}

// P1: an answer at every argument, however far from what may be.
func TestP1ExtractEveryArgument(t *testing.T) {
	far := []int64{math.MinInt64, -1, 0, 5, 255, 256, 65520, 65521, math.MaxInt64}
	for _, key := range far {
		for _, value := range far {
			for n := range 4 {
				s := impl.Said{Old: n%2 == 1, There: n >= 2, Value: value}
				path, trail := s, s
				path.Path = slices.Repeat([]int64{value}, 8)
				trail.Trail = anyTrail(impl.Slot{Key: key, Value: value}, key, value)
				for _, x := range []asked{{threeSlots, nil, key, s, path}, {nil, threeSlots, key, path, trail}, {[]impl.Slot{{Key: key, Value: value}}, nil, key, trail, s}} {
					got := impl.NewClash(x.list, key, x.a.There, x.a.Value, x.a.Trail)
					if want := newClashBy(x.list, tale{key, x.a.There, x.a.Value, x.a.Trail}); !sameClash(got, want) {
						t.Fatalf("NewClash of %v = %#v, not %#v", x, got, want)
					}
					if got, want := impl.BothClash(x.list, key, x.a, x.b), bothClashBy(x.list, key, x.a, x.b); !sameClash(got, want) {
						t.Fatalf("BothClash of %v = %#v, not %#v", x, got, want)
					}
					seeTrees(t, x.list, x.other)
				}
			}
		}
	}
}
