package tests

import (
	"slices"
	"testing"

	"loop.example/g00602/impl"
)

// forkBitBy, sideBy, nodeBy, newRootBy, nearBy and trailBy say over again, in the document's
// words, what chapter 6 asks: bits are asked from the highest one on, of each key, and sides
// are those that are left of all slots; the sweeps hold the program against them.
func forkBitBy(list []impl.Slot) int64 {
	weight := int64(128)
	for bit := int64(7); bit >= 0; bit-- {
		ones := 0
		for _, s := range list {
			ones += int(s.Key / weight % 2)
		}
		if ones > 0 && ones < len(list) {
			return bit
		}
		weight /= 2
	}
	panic("there are fewer than two keys")
}

func bitBy(key int64, bit int64) int64 {
	for range bit {
		key /= 2
	}
	return key % 2
}

func sideBy(list []impl.Slot, bit int64, side int64) []impl.Slot {
	var out []impl.Slot
	for _, s := range list {
		if bitBy(s.Key, bit) == side {
			out = append(out, s)
		}
	}
	return out
}

func nodeBy(list []impl.Slot) []byte {
	switch len(list) {
	case 0:
		return []byte{9}
	case 1:
		return tagged(4, []int64{list[0].Key, list[0].Value})
	}
	bit := forkBitBy(list)
	return tagged(5, []int64{bit, newRootBy(sideBy(list, bit, 0)), newRootBy(sideBy(list, bit, 1))})
}

func newRootBy(list []impl.Slot) int64 {
	return sumBack(nodeBy(list))
}

func nearBy(list []impl.Slot, key int64) impl.Slot {
	for len(list) > 1 {
		bit := forkBitBy(list)
		list = sideBy(list, bit, bitBy(key, bit))
	}
	return list[0]
}

func trailBy(list []impl.Slot, key int64) impl.Trail {
	if len(list) == 0 {
		return impl.Trail{}
	}
	if len(list) == 1 {
		return impl.Trail{Any: true, Leaf: list[0]}
	}
	bit := forkBitBy(list)
	side := bitBy(key, bit)
	trail := trailBy(sideBy(list, bit, side), key)
	other := newRootBy(sideBy(list, bit, 1-side))
	trail.Forks = append(trail.Forks, impl.Fork{Bit: bit, Other: other})
	return trail
}

func sameTrail(got impl.TrailResult, want impl.Trail) bool {
	return got.Code == impl.OK && got.Trail.Any == want.Any && got.Trail.Leaf == want.Leaf && slices.Equal(got.Trail.Forks, want.Forks)
}

func noTrail(got impl.TrailResult, code int64) bool {
	return got.Code == code && !got.Trail.Any && got.Trail.Leaf == impl.Slot{} && len(got.Trail.Forks) == 0
}

// seeTree: what the new tree of slots without a fault answers, but for keys.
func seeTree(t *testing.T, list []impl.Slot) {
	t.Helper()
	fork := impl.IntResult{Code: impl.ErrNone}
	if len(list) > 1 {
		fork = impl.IntResult{Value: forkBitBy(list)}
	}
	if got := impl.ForkBit(list); got != fork {
		t.Fatalf("ForkBit(%v) = %#v, not %#v", list, got, fork)
	}
	if got, want := impl.ForksOf(list), int64(max(len(list)-1, 0)); got != (impl.IntResult{Value: want}) {
		t.Fatalf("ForksOf(%v) = %#v, not %d", list, got, want)
	}
	want := nodeBy(list)
	if got := impl.NodeBytes(list); !sameBytes(got, want) {
		t.Fatalf("NodeBytes(%v) = %#v, not %v", list, got, want)
	}
	if got := impl.NewRoot(list); got != (impl.IntResult{Value: sumBack(want)}) {
		t.Fatalf("NewRoot(%v) = %#v, not %d", list, got, sumBack(want))
	}
}

// seeKey: where the new tree of slots without a fault leads key.
func seeKey(t *testing.T, list []impl.Slot, key int64) {
	t.Helper()
	near := impl.SlotResult{Code: impl.ErrNone}
	if len(list) > 0 {
		near = impl.SlotResult{Slot: nearBy(list, key)}
	}
	if got := impl.NearSlot(list, key); got != near {
		t.Fatalf("NearSlot(%v, %d) = %#v, not %#v", list, key, got, near)
	}
	if got, want := impl.NewTrail(list, key), trailBy(list, key); !sameTrail(got, want) {
		t.Fatalf("NewTrail(%v, %d) = %#v, not %#v", list, key, got, want)
	}
}

// seeNoTree: each function of chapter 6 has that code, whatever the key, and nothing beside it.
func seeNoTree(t *testing.T, list []impl.Slot, code int64) {
	t.Helper()
	none := impl.IntResult{Code: code}
	if impl.ForkBit(list) != none || impl.NewRoot(list) != none || impl.ForksOf(list) != none {
		t.Fatalf("%v: ForkBit %#v, NewRoot %#v, ForksOf %#v, not code %d", list, impl.ForkBit(list), impl.NewRoot(list), impl.ForksOf(list), code)
	}
	if got := impl.NodeBytes(list); !noBytes(got, code) {
		t.Fatalf("NodeBytes(%v) = %#v, not code %d", list, got, code)
	}
	for _, key := range slices.Concat([]int64{0, 5, 255}, noKeys) {
		if got := impl.NearSlot(list, key); got != (impl.SlotResult{Code: code}) {
			t.Fatalf("NearSlot(%v, %d) = %#v, not code %d", list, key, got, code)
		}
		if got := impl.NewTrail(list, key); !noTrail(got, code) {
			t.Fatalf("NewTrail(%v, %d) = %#v, not code %d", list, key, got, code)
		}
	}
}

// keysOf: slots of these keys, of values that are not the same.
func keysOf(keys ...int64) []impl.Slot {
	var list []impl.Slot
	for at, key := range keys {
		list = append(list, impl.Slot{Key: key, Value: (key*211 + int64(at)*5003 + 17) % 65521})
	}
	return list
}

// forksOf: forks, told by a bit and a sum each.
func forksOf(numbers ...int64) []impl.Fork {
	var forks []impl.Fork
	for pair := range slices.Chunk(numbers, 2) {
		forks = append(forks, impl.Fork{Bit: pair[0], Other: pair[1]})
	}
	return forks
}

// forkedSlots: all forks on one way, on both ways, below a highest bit that all have, and far apart.
func forkedSlots() [][]impl.Slot {
	return slices.Concat(someSlots(), [][]impl.Slot{
		keysOf(0, 1), keysOf(254, 255), keysOf(84, 85), keysOf(0, 128), keysOf(127, 255), keysOf(85, 213),
		keysOf(0, 255), keysOf(85, 170), keysOf(127, 128), keysOf(15, 240), keysOf(1, 254),
		keysOf(128, 131), keysOf(200, 203), keysOf(128, 129, 130), keysOf(128, 130, 131), keysOf(64, 65, 127), keysOf(240, 242, 243, 251),
		keysOf(32, 33, 34, 35, 36, 37, 38, 39, 40, 41, 42, 43), keysOf(244, 245, 246, 247, 248, 249, 250, 251, 252, 253, 254, 255),
		keysOf(0, 128, 192, 224, 240, 248, 252, 254, 255), keysOf(0, 1, 2, 4, 8, 16, 32, 64, 128), keysOf(127, 191, 223, 239, 247, 251, 253, 254, 255),
	})
}

func TestTrieExamples(t *testing.T) {
	trees := []struct {
		list  []impl.Slot
		bit   int64
		piece []byte
		root  int64
	}{
		{nil, -1, []byte{9}, 1817},
		{[]impl.Slot{{}}, -1, []byte{4, 0, 0, 0, 0}, 64076},
		{[]impl.Slot{{Key: 255, Value: 65520}}, -1, []byte{4, 0, 255, 255, 240}, 47020},
		{[]impl.Slot{{Key: 5, Value: 258}}, -1, []byte{4, 0, 5, 1, 2}, 29780},
		{[]impl.Slot{{Key: 1, Value: 10}, {Key: 5, Value: 20}}, 2, []byte{5, 0, 2, 69, 222, 115, 219}, 5327},
		{[]impl.Slot{{Key: 4, Value: 1}, {Key: 5, Value: 2}}, 0, []byte{5, 0, 0, 40, 79, 115, 201}, 25519},
		{[]impl.Slot{{Key: 1, Value: 3}, {Key: 129, Value: 4}}, 7, []byte{5, 0, 7, 69, 215, 4, 146}, 59619},
		{[]impl.Slot{{Key: 0, Value: 65520}, {Key: 255}}, 7, []byte{5, 0, 7, 133, 192, 44, 71}, 31880},
		{[]impl.Slot{{Key: 85, Value: 7}, {Key: 170, Value: 8}}, 7, []byte{5, 0, 7, 11, 6, 27, 171}, 64569},
		{[]impl.Slot{{Key: 200, Value: 7}, {Key: 203, Value: 9}}, 1, []byte{5, 0, 1, 244, 80, 214, 204}, 661},
		{[]impl.Slot{{Key: 1, Value: 10}, {Key: 4, Value: 20}, {Key: 5, Value: 30}}, 2, []byte{5, 0, 2, 69, 222, 254, 17}, 24446},
		{[]impl.Slot{{Key: 0, Value: 1}, {Key: 1, Value: 2}, {Key: 128, Value: 3}, {Key: 255, Value: 4}}, 7, []byte{5, 0, 7, 82, 247, 130, 28}, 30431},
		{[]impl.Slot{{Key: 128, Value: 1}, {Key: 130, Value: 2}, {Key: 131, Value: 3}}, 1, []byte{5, 0, 1, 185, 7, 96, 224}, 59086},
		{[]impl.Slot{{Key: 0}, {Key: 1}, {Key: 3}, {Key: 7}, {Key: 15}, {Key: 31}, {Key: 63}, {Key: 127}, {Key: 255}}, 7, []byte{5, 0, 7, 196, 178, 44, 71}, 42245},
	}
	for _, x := range trees {
		bit := impl.IntResult{Value: x.bit}
		if x.bit < 0 {
			bit = impl.IntResult{Code: impl.ErrNone}
		}
		if got := impl.ForkBit(x.list); got != bit {
			t.Errorf("ForkBit(%v) = %#v, not %#v", x.list, got, bit)
		}
		if got := impl.NodeBytes(x.list); !sameBytes(got, x.piece) {
			t.Errorf("NodeBytes(%v) = %#v, not %v", x.list, got, x.piece)
		}
		if got := impl.NewRoot(x.list); got != (impl.IntResult{Value: x.root}) {
			t.Errorf("NewRoot(%v) = %#v, not %d", x.list, got, x.root)
		}
	}
}

func TestTrailExamples(t *testing.T) {
	two := []impl.Slot{{Key: 1, Value: 10}, {Key: 5, Value: 20}}
	three := []impl.Slot{{Key: 1, Value: 10}, {Key: 4, Value: 20}, {Key: 5, Value: 30}}
	four := []impl.Slot{{Key: 0, Value: 1}, {Key: 1, Value: 2}, {Key: 128, Value: 3}, {Key: 255, Value: 4}}
	high := []impl.Slot{{Key: 128, Value: 1}, {Key: 130, Value: 2}, {Key: 131, Value: 3}}
	nine := []impl.Slot{{Key: 0}, {Key: 1}, {Key: 3}, {Key: 7}, {Key: 15}, {Key: 31}, {Key: 63}, {Key: 127}, {Key: 255}}
	trails := []struct {
		list  []impl.Slot
		key   int64
		leaf  int64
		forks []impl.Fork
	}{
		{[]impl.Slot{{}}, 255, 0, nil},
		{two, 5, 5, forksOf(2, 17886)},
		{two, 0, 1, forksOf(2, 29659)},
		{two, 255, 5, forksOf(2, 17886)},
		{three, 4, 4, forksOf(0, 29669, 2, 17886)},
		{three, 5, 5, forksOf(0, 10338, 2, 17886)},
		{three, 7, 5, forksOf(0, 10338, 2, 17886)},
		{three, 2, 1, forksOf(2, 65041)},
		{three, 255, 5, forksOf(0, 10338, 2, 17886)},
		{four, 0, 0, forksOf(0, 17878, 7, 33308)},
		{four, 129, 128, forksOf(6, 11339, 7, 21239)},
		{four, 127, 1, forksOf(0, 64077, 7, 33308)},
		{high, 0, 128, forksOf(1, 24800)},
		{high, 255, 131, forksOf(0, 20489, 1, 47367)},
		{nine, 0, 0, forksOf(0, 17876, 1, 56518, 2, 2760, 3, 26286, 4, 7817, 5, 36400, 6, 28045, 7, 11335)},
		{nine, 255, 255, forksOf(7, 50354)},
		{nine, 2, 3, forksOf(1, 1916, 2, 2760, 3, 26286, 4, 7817, 5, 36400, 6, 28045, 7, 11335)},
	}
	for _, x := range trails {
		leaf, _ := slotBy(x.list, x.leaf)
		if got := impl.NearSlot(x.list, x.key); got != (impl.SlotResult{Slot: leaf}) {
			t.Errorf("NearSlot(%v, %d) = %#v, not %v", x.list, x.key, got, leaf)
		}
		if got, want := impl.NewTrail(x.list, x.key), (impl.Trail{Any: true, Leaf: leaf, Forks: x.forks}); !sameTrail(got, want) {
			t.Errorf("NewTrail(%v, %d) = %#v, not %v", x.list, x.key, got, want)
		}
	}
}

// The new tree of each list, and the way of each key that there is or may be.
func TestTrieWhole(t *testing.T) {
	for _, list := range forkedSlots() {
		seeTree(t, list)
		for key := range int64(256) {
			seeKey(t, list, key)
		}
	}
}

// No slots: a tree all the same, but no fork and no slot that is near.
func TestTrieOfNoSlots(t *testing.T) {
	for _, list := range [][]impl.Slot{nil, {}} {
		if !sameBytes(impl.NodeBytes(list), []byte{9}) || impl.NewRoot(list) != impl.TagSum(9, nil) || impl.ForksOf(list) != (impl.IntResult{}) || impl.ForkBit(list) != (impl.IntResult{Code: impl.ErrNone}) {
			t.Errorf("no slots: %#v, %#v, %#v, %#v", impl.NodeBytes(list), impl.NewRoot(list), impl.ForksOf(list), impl.ForkBit(list))
		}
		for key := range int64(256) {
			near, trail := impl.NearSlot(list, key), impl.NewTrail(list, key)
			if near != (impl.SlotResult{Code: impl.ErrNone}) || !noTrail(trail, impl.OK) {
				t.Errorf("no slots, %d: %#v, %#v", key, near, trail)
			}
		}
		for _, key := range noKeys {
			near, trail := impl.NearSlot(list, key), impl.NewTrail(list, key)
			if near != (impl.SlotResult{Code: impl.ErrRange}) || !noTrail(trail, impl.ErrRange) {
				t.Errorf("no slots, %d: %#v, %#v", key, near, trail)
			}
		}
	}
}

// One slot: a leaf, to which each key is led, without a fork.
func TestTrieOfOneSlot(t *testing.T) {
	for key := range int64(256) {
		for _, value := range sumEdges {
			s := impl.Slot{Key: key, Value: value}
			list := []impl.Slot{s}
			if !sameBytes(impl.NodeBytes(list), tagged(4, []int64{key, value})) || impl.NewRoot(list) != impl.TagSum(4, []int64{key, value}) || impl.ForksOf(list) != (impl.IntResult{}) || impl.ForkBit(list) != (impl.IntResult{Code: impl.ErrNone}) {
				t.Fatalf("%v: %#v, %#v, %#v, %#v", s, impl.NodeBytes(list), impl.NewRoot(list), impl.ForksOf(list), impl.ForkBit(list))
			}
			for _, asked := range []int64{0, 1, key, 255 - key, key ^ 1, 127, 128, 255} {
				near, trail := impl.NearSlot(list, asked), impl.NewTrail(list, asked)
				if near != (impl.SlotResult{Slot: s}) || !sameTrail(trail, impl.Trail{Any: true, Leaf: s}) {
					t.Fatalf("%v, %d: %#v, %#v", s, asked, near, trail)
				}
			}
		}
	}
	for value := range int64(65521) {
		seeTree(t, []impl.Slot{{Key: 77, Value: value}})
	}
}

// Every two keys that there are: in the lowest bit alone, in the highest one alone, in every bit, and all else.
func TestTrieOfTwoSlots(t *testing.T) {
	var seen [8]int
	for low := range int64(256) {
		for high := low + 1; high < 256; high++ {
			list := []impl.Slot{{Key: low, Value: low * 7}, {Key: high, Value: 65520 - high}}
			seeTree(t, list)
			bit := forkBitBy(list)
			seen[bit]++
			for _, key := range []int64{low, high, 0, 255, low ^ high, low ^ 1<<bit} {
				seeKey(t, list, key)
			}
			leaves := []int64{newRootBy(list[:1]), newRootBy(list[1:])}
			if got := impl.NewTrail(list, high); !sameTrail(got, impl.Trail{Any: true, Leaf: list[1], Forks: []impl.Fork{{Bit: bit, Other: leaves[0]}}}) {
				t.Fatalf("NewTrail(%v, %d) = %#v", list, high, got)
			}
			if got := impl.NewTrail(list, low); !sameTrail(got, impl.Trail{Any: true, Leaf: list[0], Forks: []impl.Fork{{Bit: bit, Other: leaves[1]}}}) {
				t.Fatalf("NewTrail(%v, %d) = %#v", list, low, got)
			}
		}
	}
	if seen != [8]int{128, 256, 512, 1024, 2048, 4096, 8192, 16384} {
		t.Errorf("fork bits of two keys seen: %v", seen)
	}
}

// Every three keys of the ends of all parts, so that the second fork stands at either side, at each bit.
func TestTrieOfThreeSlots(t *testing.T) {
	edges := []int64{0, 1, 2, 3, 4, 7, 8, 15, 16, 31, 32, 63, 64, 85, 127, 128, 129, 131, 170, 191, 192, 223, 224, 239, 240, 247, 248, 251, 252, 253, 254, 255}
	for at, a := range edges {
		for more, b := range edges[at+1:] {
			for _, c := range edges[at+more+2:] {
				list := keysOf(a, b, c)
				seeTree(t, list)
				for _, key := range []int64{a, b, c, 0, 255, b ^ 1, a ^ 128, 255 - c} {
					seeKey(t, list, key)
				}
			}
		}
	}
}

// The keys -1, 0, 255 and 256, and all that is no key.
func TestTrieKeyEdges(t *testing.T) {
	for _, list := range forkedSlots() {
		for _, key := range noKeys {
			if got := impl.NearSlot(list, key); got != (impl.SlotResult{Code: impl.ErrRange}) {
				t.Fatalf("NearSlot(%v, %d) = %#v", list, key, got)
			}
			if got := impl.NewTrail(list, key); !noTrail(got, impl.ErrRange) {
				t.Fatalf("NewTrail(%v, %d) = %#v", list, key, got)
			}
		}
		if len(list) == 0 {
			continue
		}
		// 0 goes on with the zeros at each fork, 255 with the ones: they lead to both ends.
		if impl.NearSlot(list, 0).Slot != list[0] || impl.NearSlot(list, 255).Slot != list[len(list)-1] {
			t.Fatalf("%v: 0 leads to %v, 255 to %v", list, impl.NearSlot(list, 0), impl.NearSlot(list, 255))
		}
	}
}

// The fork bit is that of the keys, not of the highest bit that they have, nor of the lowest in which they differ.
func TestForkBitIsTheHighest(t *testing.T) {
	bits := []struct {
		keys []int64
		bit  int64
	}{
		{[]int64{1, 5}, 2},
		{[]int64{0, 1}, 0},
		{[]int64{254, 255}, 0},
		{[]int64{0, 128}, 7},
		{[]int64{127, 255}, 7},
		{[]int64{0, 255}, 7},
		{[]int64{127, 128}, 7},
		{[]int64{128, 131}, 1},
		{[]int64{192, 207}, 3},
		{[]int64{192, 200, 207}, 3},
		{[]int64{192, 193, 194}, 1},
		{[]int64{194, 195, 196}, 2},
		{[]int64{195, 196, 197}, 2},
		{[]int64{6, 9}, 3},
		{[]int64{62, 63, 64}, 6},
		{[]int64{64, 65, 126, 127}, 5},
		{[]int64{244, 245, 246, 247, 248, 249, 250, 251, 252, 253, 254, 255}, 3},
		{[]int64{240, 241, 242, 243, 244, 245, 246, 247}, 2},
	}
	for _, x := range bits {
		if got := impl.ForkBit(keysOf(x.keys...)); got != (impl.IntResult{Value: x.bit}) {
			t.Errorf("ForkBit of %v = %#v, not %d", x.keys, got, x.bit)
		}
	}
	for base := int64(0); base < 256; base += 2 {
		for bit := int64(1); bit < 8; bit++ {
			list := keysOf(base&^(1<<bit), base|1<<bit, base|1<<bit|1)
			if got := impl.ForkBit(list); got != (impl.IntResult{Value: bit}) {
				t.Fatalf("ForkBit(%v) = %#v, not %d", list, got, bit)
			}
		}
	}
}

// P7: one fork less than there are slots, and each key that there is leads to its slot.
func TestP7ForksAndSlots(t *testing.T) {
	counts := map[int]int{}
	for _, list := range forkedSlots() {
		counts[len(list)]++
		if got := impl.ForksOf(list); got != (impl.IntResult{Value: int64(max(len(list)-1, 0))}) {
			t.Fatalf("ForksOf(%v) = %#v", list, got)
		}
		for _, s := range list {
			if got := impl.NearSlot(list, s.Key); got != (impl.SlotResult{Slot: s}) {
				t.Fatalf("NearSlot(%v, %d) = %#v", list, s.Key, got)
			}
			if got := impl.NewTrail(list, s.Key); got.Code != impl.OK || !got.Trail.Any || got.Trail.Leaf != s {
				t.Fatalf("NewTrail(%v, %d) = %#v", list, s.Key, got)
			}
		}
	}
	for n := range 13 {
		if counts[n] == 0 {
			t.Errorf("no list of %d slots was asked", n)
		}
	}
}

// P7: cut at the fork bit both sides have something, both together are all, and the node tells the bit and both sums; and so on down.
func TestP7Sides(t *testing.T) {
	var down func(list []impl.Slot) int64
	down = func(list []impl.Slot) int64 {
		fork := impl.ForkBit(list)
		if fork.Code != impl.OK {
			if len(list) != 1 || fork.Code != impl.ErrNone {
				t.Fatalf("ForkBit(%v) = %#v", list, fork)
			}
			return 0
		}
		// Keys rise, and are the same above that bit: one cut parts both sides.
		at := list[0].Key>>fork.Value<<fork.Value + 1<<fork.Value
		zero, one := impl.CutSlots(list, 0, at).Slots, impl.CutSlots(list, at, 256).Slots
		if len(zero) == 0 || len(one) == 0 || !slices.Equal(slices.Concat(zero, one), list) {
			t.Fatalf("%v, cut at %d: %v, %v", list, fork.Value, zero, one)
		}
		if !slices.Equal(zero, sideBy(list, fork.Value, 0)) || !slices.Equal(one, sideBy(list, fork.Value, 1)) {
			t.Fatalf("%v: %v or %v is no side of %d", list, zero, one, fork.Value)
		}
		left, right := impl.NewRoot(zero).Value, impl.NewRoot(one).Value
		if got := impl.NodeBytes(list); !sameBytes(got, tagged(5, []int64{fork.Value, left, right})) {
			t.Fatalf("NodeBytes(%v) = %#v, not of %d, %d, %d", list, got, fork.Value, left, right)
		}
		for _, s := range zero {
			seeFork(t, list, zero, s.Key, impl.Fork{Bit: fork.Value, Other: right})
		}
		for _, s := range one {
			seeFork(t, list, one, s.Key, impl.Fork{Bit: fork.Value, Other: left})
		}
		return 1 + down(zero) + down(one)
	}
	for _, list := range forkedSlots() {
		if len(list) > 0 {
			if forks := down(list); impl.ForksOf(list) != (impl.IntResult{Value: forks}) {
				t.Fatalf("ForksOf(%v) = %#v, not %d", list, impl.ForksOf(list), forks)
			}
		}
	}
}

// seeFork: the trail of key in list is that in its side, and the fork behind it.
func seeFork(t *testing.T, list []impl.Slot, side []impl.Slot, key int64, fork impl.Fork) {
	t.Helper()
	want := impl.NewTrail(side, key).Trail
	want.Forks = append(want.Forks, fork)
	if got := impl.NewTrail(list, key); !sameTrail(got, want) {
		t.Fatalf("NewTrail(%v, %d) = %#v, not %#v", list, key, got, want)
	}
}

// P7: each key leads on as its bits say, and a key of which there is none leads to the slot that is left.
func TestP7NoneOfThatKey(t *testing.T) {
	none := 0
	for _, list := range forkedSlots() {
		if len(list) == 0 {
			continue
		}
		for key := range int64(256) {
			near, trail := impl.NearSlot(list, key), impl.NewTrail(list, key).Trail
			if !slices.Contains(list, near.Slot) || trail.Leaf != near.Slot {
				t.Fatalf("%v, %d: %#v, %#v", list, key, near, trail)
			}
			if _, there := slotBy(list, key); there != (near.Slot.Key == key) {
				t.Fatalf("%v, %d: %#v", list, key, near)
			} else if !there {
				none++
			}
			// At each fork of the trail the slot that is left goes as key does; and its own trail is the same one.
			below := int64(-1)
			for _, fork := range trail.Forks {
				if fork.Bit <= below || fork.Bit > 7 || bitBy(key, fork.Bit) != bitBy(near.Slot.Key, fork.Bit) {
					t.Fatalf("%v, %d: %#v", list, key, trail)
				}
				below = fork.Bit
			}
			if got := impl.NewTrail(list, near.Slot.Key); !sameTrail(got, trail) {
				t.Fatalf("NewTrail(%v, %d) = %#v, of %d %#v", list, near.Slot.Key, got, key, trail)
			}
		}
	}
	if none < 10000 {
		t.Errorf("%d keys of which there are none asked alone", none)
	}
}

// P7: all of it hangs in the root: from each leaf up, by its trail, and the root turns with each value.
func TestP7Root(t *testing.T) {
	for _, list := range forkedSlots() {
		root := impl.NewRoot(list).Value
		for at, s := range list {
			sum := sumBack(tagged(4, []int64{s.Key, s.Value}))
			for _, fork := range impl.NewTrail(list, s.Key).Trail.Forks {
				sides := []int64{fork.Bit, sum, fork.Other}
				if bitBy(s.Key, fork.Bit) == 1 {
					sides = []int64{fork.Bit, fork.Other, sum}
				}
				sum = sumBack(tagged(5, sides))
			}
			if sum != root {
				t.Fatalf("%v, from %v up: %d, not %d", list, s, sum, root)
			}
			other := slices.Clone(list)
			other[at].Value = (s.Value + 1) % 65521
			seeTree(t, other)
		}
	}
}

// Slots that have a fault come ahead of the key, and ahead of how many there are.
func TestTrieCodes(t *testing.T) {
	for _, x := range faultySlots() {
		if x.code == impl.OK {
			seeTree(t, x.list)
			continue
		}
		seeNoTree(t, x.list, x.code)
	}
	for _, n := range noKeys {
		seeNoTree(t, []impl.Slot{{Key: n}}, impl.ErrRange)
		seeNoTree(t, []impl.Slot{{Key: 5}, {Key: n}}, impl.ErrRange)
	}
	for _, n := range noSums {
		seeNoTree(t, []impl.Slot{{Key: 5, Value: n}}, impl.ErrRange)
		seeNoTree(t, []impl.Slot{{Key: 5, Value: 5}, {Key: 6, Value: n}}, impl.ErrRange)
	}
	for n := 13; n < 20; n++ {
		seeNoTree(t, run(n, 0, 1), impl.ErrMany)
	}
}

// One slot of twelve that is not so, at each place.
func TestTrieCodePlaces(t *testing.T) {
	for at := range 12 {
		for _, s := range []impl.Slot{{Key: -1}, {Key: 256}, {Key: int64(at)*17 + 1, Value: -1}, {Key: int64(at)*17 + 1, Value: 65521}} {
			list := run(12, 1, 17)
			list[at] = s
			seeNoTree(t, list, impl.ErrRange)
		}
		if at > 0 {
			list := run(12, 1, 17)
			list[at].Key = list[at-1].Key
			seeNoTree(t, list, impl.ErrForm)
			list[at].Key--
			seeNoTree(t, list, impl.ErrForm)
		}
	}
}

// askTree: all that chapter 6 answers of these arguments, laid in one list, with a mark between.
func askTree(list []impl.Slot, key int64) []int64 {
	var out []int64
	for _, x := range []impl.IntResult{impl.ForkBit(list), impl.NewRoot(list), impl.ForksOf(list)} {
		out = append(out, x.Code, x.Value)
	}
	near, trail, node := impl.NearSlot(list, key), impl.NewTrail(list, key), impl.NodeBytes(list)
	out = append(out, near.Code, near.Slot.Key, near.Slot.Value, trail.Code, byte64(trail.Trail.Any), trail.Trail.Leaf.Key, trail.Trail.Leaf.Value, node.Code, -7)
	for _, fork := range trail.Trail.Forks {
		out = append(out, fork.Bit, fork.Other)
	}
	out = append(out, -7)
	for _, b := range node.Bytes {
		out = append(out, int64(b))
	}
	return out
}

var treeKeys = []int64{-1, 0, 5, 124, 128, 170, 255, 256}

// P1: what is handed in is as it was, with the room around it; and that room is not looked at.
func TestP1TrieArgumentsStay(t *testing.T) {
	lists := forkedSlots()
	for _, x := range faultySlots() {
		lists = append(lists, x.list)
	}
	behind := []impl.Slot{{Key: 7, Value: 70}, {Key: 255, Value: 80}, {Key: -9, Value: -90}}
	for _, list := range lists {
		room := slices.Concat(behind, list, behind)
		was := slices.Clone(room)
		for _, key := range treeKeys {
			if got, want := askTree(room[3:3+len(list)], key), askTree(list, key); !slices.Equal(got, want) {
				t.Fatalf("%v, %d with room behind: %v, not %v", list, key, got, want)
			}
			if !slices.Equal(room, was) {
				t.Fatalf("%v, %d turned its argument: %v", list, key, room)
			}
		}
	}
}

// P1: what comes back shares no memory with what was handed in, nor with another answer.
func TestP1TrieAnswersAreNew(t *testing.T) {
	for _, list := range forkedSlots() {
		given := slices.Clone(list)
		for _, key := range treeKeys[1:7] {
			first := askTree(given, key)
			trail, sameAsTrail := impl.NewTrail(given, key).Trail, impl.NewTrail(given, key)
			node, sameAsNode := impl.NodeBytes(given).Bytes, impl.NodeBytes(given)
			for at := range trail.Forks[:cap(trail.Forks)] {
				trail.Forks[:cap(trail.Forks)][at] = impl.Fork{Bit: -5, Other: -5}
			}
			for at := range node[:cap(node)] {
				node[:cap(node)][at] = 99
			}
			if !sameTrail(sameAsTrail, trailBy(list, key)) || !sameBytes(sameAsNode, nodeBy(list)) || !slices.Equal(given, list) {
				t.Fatalf("%v, %d: an answer shares: %#v, %#v, %v", list, key, sameAsTrail, sameAsNode, given)
			}
			if again := askTree(given, key); !slices.Equal(again, first) {
				t.Fatalf("%v, %d: %v, then %v", list, key, first, again)
			}
		}
		// And the other way round: what is handed in may be turned behind the call.
		trail, node := impl.NewTrail(given, 9), impl.NodeBytes(given)
		for at := range given {
			given[at] = impl.Slot{Key: -5, Value: -5}
		}
		if !sameTrail(trail, trailBy(list, 9)) || !sameBytes(node, nodeBy(list)) {
			t.Fatalf("answers of %v turned with it: %#v, %#v", list, trail, node)
		}
	}
}

// P1: nil and an empty list are the same value.
func TestP1TrieOfNothing(t *testing.T) {
	for _, key := range treeKeys {
		if got, want := askTree(make([]impl.Slot, 0, 5), key), askTree(nil, key); !slices.Equal(got, want) {
			t.Errorf("%d of an empty list: %v, not %v", key, got, want)
		}
	}
}

func TestP1TrieHangsOnArguments(t *testing.T) {
	lists := forkedSlots()
	for _, x := range faultySlots() {
		lists = append(lists, x.list)
	}
	var first [][]int64
	for _, list := range lists {
		for _, key := range treeKeys {
			first = append(first, askTree(list, key))
		}
	}
	// The other way round the second time, so that something kept would show.
	for at, was := range slices.Backward(first) {
		list, key := lists[at/len(treeKeys)], treeKeys[at%len(treeKeys)]
		if is := askTree(list, key); !slices.Equal(is, was) {
			t.Fatalf("%v, %d: %v, then %v", list, key, was, is)
		}
	}
}
