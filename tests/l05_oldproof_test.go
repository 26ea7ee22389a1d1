package tests

import (
	"bytes"
	"math"
	"slices"
	"testing"

	"loop.example/g00602/impl"
)

// story: what is told of a key of the old tree, and the path that is to show it.
type story struct {
	key   int64
	there bool
	value int64
	path  []int64
}

func (x story) climb() impl.IntResult {
	return impl.ClimbOld(x.key, x.there, x.value, x.path)
}

func (x story) accept(root int64) bool {
	return impl.AcceptOld(x.key, x.there, x.value, x.path, root)
}

func (x story) clash(list []impl.Slot) impl.ClashResult {
	return impl.OldClash(list, x.key, x.there, x.value, x.path)
}

// with: another sum at one level of the path.
func (x story) with(level int, side int64) story {
	x.path = slices.Clone(x.path)
	x.path[level] = side
	return x
}

// storyOf: what is so of key, by the words of chapter 4 said over again.
func storyOf(list []impl.Slot, levels [][]int64, key int64) story {
	s, there := slotBy(list, key)
	return story{key, there, s.Value, pathBy(levels, key)}
}

// leafCode, leafBy, piecesBy, climbBy and oldClashBy say over again, in the document's words, what
// chapter 5 asks: pieces as they are summed, and the tree that there is by all 256 leaves.
func leafCode(x story) int64 {
	if x.key < 0 || x.key >= 256 {
		return impl.ErrRange
	}
	if x.there && (x.value < 0 || x.value >= 65521) {
		return impl.ErrRange
	}
	if !x.there && x.value != 0 {
		return impl.ErrRange
	}
	return impl.OK
}

func leafBy(x story) []byte {
	if !x.there {
		return nil
	}
	return tagged(3, []int64{x.key, x.value})
}

// piecesBy: what is summed, from the leaf on up to the root.
func piecesBy(x story) [][]byte {
	pieces := [][]byte{leafBy(x)}
	place := x.key
	for level, side := range x.path {
		below := sumBack(pieces[level])
		sides := []int64{below, side}
		if place%2 == 1 {
			sides = []int64{side, below}
		}
		pieces = append(pieces, tagged(2, sides))
		place /= 2
	}
	return pieces
}

func climbBy(x story) impl.IntResult {
	if code := leafCode(x); code != impl.OK {
		return impl.IntResult{Code: code}
	}
	if len(x.path) != 8 {
		return impl.IntResult{Code: impl.ErrProof}
	}
	if slices.Min(x.path) < 0 || slices.Max(x.path) >= 65521 {
		return impl.IntResult{Code: impl.ErrRange}
	}
	return impl.IntResult{Value: sumBack(piecesBy(x)[8])}
}

func oldClashBy(list []impl.Slot, x story) impl.ClashResult {
	if code := slotsCode(list); code != impl.OK {
		return impl.ClashResult{Code: code}
	}
	climbed := climbBy(x)
	if climbed.Code != impl.OK {
		return impl.ClashResult{Code: climbed.Code}
	}
	levels := oldLevels(list)
	if climbed.Value != levels[8][0] {
		return impl.ClashResult{Code: impl.ErrProof}
	}
	told, is := piecesBy(x), piecesBy(storyOf(list, levels, x.key))
	for level := 8; level >= 0; level-- {
		if sumBack(told[level]) == sumBack(is[level]) && !bytes.Equal(told[level], is[level]) {
			return impl.ClashResult{Clash: impl.Clash{Found: true, A: told[level], B: is[level]}}
		}
	}
	return impl.ClashResult{}
}

func sameClash(got impl.ClashResult, want impl.ClashResult) bool {
	if !want.Clash.Found {
		return noClash(got, want.Code)
	}
	return isClashOf(got, want.Clash.A, want.Clash.B)
}

func seeStory(t *testing.T, list []impl.Slot, x story) {
	t.Helper()
	want := climbBy(x)
	if got := x.climb(); got != want {
		t.Fatalf("ClimbOld of %v = %#v, not %#v", x, got, want)
	}
	for _, root := range []int64{want.Value, want.Value + 1, want.Value - 1, want.Code, 0, -1, 65520, 65521} {
		if got := x.accept(root); got != (want == impl.IntResult{Value: root}) {
			t.Fatalf("AcceptOld of %v, %d = %v", x, root, got)
		}
	}
	if got, want := x.clash(list), oldClashBy(list, x); !sameClash(got, want) {
		t.Fatalf("OldClash(%v, %v) = %#v, not %#v", list, x, got, want)
	}
}

// numbersTo: the sums that lead to target, where sum tells what comes of one that stands in two bytes
// of a piece; 65521 is prime, so that the low byte of it is known once the high one is.
func numbersTo(target int64, sum func(n int64) int64) []int64 {
	weight := (sum(1) - sum(0) + 65521) % 65521
	over := int64(1)
	for left := 65519; left > 0; left /= 2 {
		if left%2 == 1 {
			over = over * weight % 65521
		}
		weight = weight * weight % 65521
	}
	var numbers []int64
	for high := range int64(256) {
		low := (target - sum(high*256) + 65521) % 65521 * over % 65521
		if n := high*256 + low; low < 256 && n < 65521 {
			if sum(n) != target {
				panic("numbersTo tells a number that does not lead there")
			}
			numbers = append(numbers, n)
		}
	}
	return numbers
}

// sidesTo: what may stand at the side of sum, so that both of them have the sum target.
func sidesTo(place int64, sum int64, target int64) []int64 {
	return numbersTo(target, func(side int64) int64 {
		if place%2 == 1 {
			return sumBack(tagged(2, []int64{side, sum}))
		}
		return sumBack(tagged(2, []int64{sum, side}))
	})
}

// forged: the story with each path that leads it to the root, another side at level, all else as it is.
func forged(levels [][]int64, x story, level int) []story {
	x.path = pathBy(levels, x.key)
	sum := sumBack(piecesBy(x)[level])
	var out []story
	for _, side := range sidesTo(x.key>>level, sum, levels[level+1][x.key>>(level+1)]) {
		out = append(out, x.with(level, side))
	}
	return out
}

var fewLists = [][]impl.Slot{nil, {{}}, {{Key: 255, Value: 65520}}, {{Key: 5, Value: 100}, {Key: 200, Value: 7}}, run(12, 0, 1), run(12, 3, 22), run(12, 122, 1)}

func TestLeafBytesExamples(t *testing.T) {
	leaves := []struct {
		story
		want []byte
	}{
		{story{key: 5, there: true, value: 258}, []byte{3, 0, 5, 1, 2}},
		{story{key: 0, there: true}, []byte{3, 0, 0, 0, 0}},
		{story{key: 255, there: true, value: 65520}, []byte{3, 0, 255, 255, 240}},
		{story{key: 1, there: true, value: 255}, []byte{3, 0, 1, 0, 255}},
		{story{key: 0}, nil},
		{story{key: 255}, nil},
	}
	for _, x := range leaves {
		if got := impl.LeafBytes(x.key, x.there, x.value); !sameBytes(got, x.want) {
			t.Errorf("LeafBytes of %v = %#v, not %v", x.story, got, x.want)
		}
	}
}

// Each key, and what is none, beside each value, and what is none.
func TestLeafBytesSweep(t *testing.T) {
	keys := slices.Clone(noKeys)
	for key := range int64(256) {
		keys = append(keys, key)
	}
	for _, key := range keys {
		for _, value := range slices.Concat(sumEdges, noSums) {
			for _, there := range []bool{false, true} {
				x := story{key: key, there: there, value: value}
				got := impl.LeafBytes(key, there, value)
				if code := leafCode(x); code != impl.OK {
					if !noBytes(got, code) {
						t.Fatalf("LeafBytes of %v = %#v", x, got)
					}
				} else if !sameBytes(got, leafBy(x)) {
					t.Fatalf("LeafBytes of %v = %#v", x, got)
				}
			}
		}
	}
	for value := range int64(65521) {
		if got := impl.LeafBytes(9, true, value); !sameBytes(got, tagged(3, []int64{9, value})) {
			t.Fatalf("LeafBytes of 9, %d = %#v", value, got)
		}
	}
}

// The leaf that is climbed from is that of the old tree.
func TestLeafBytesAreTheLeaf(t *testing.T) {
	for _, list := range fewLists {
		leaves := oldLevels(list)[0]
		for key := range int64(256) {
			s, there := slotBy(list, key)
			if got := impl.SumOf(impl.LeafBytes(key, there, s.Value).Bytes); got != (impl.IntResult{Value: leaves[key]}) {
				t.Fatalf("the leaf of %d of %v = %#v, not %d", key, list, got, leaves[key])
			}
		}
	}
}

func TestClimbOldExamples(t *testing.T) {
	rising := []int64{1, 2, 3, 4, 5, 6, 7, 8}
	zero := make([]int64, 8)
	climbs := []struct {
		story
		root int64
	}{
		{story{0, false, 0, zero}, 16050},
		{story{255, false, 0, zero}, 18070},
		{story{0, true, 0, zero}, 29251},
		{story{255, true, 65520, slices.Repeat([]int64{65520}, 8)}, 1661},
		{story{5, true, 100, rising}, 21116},
		{story{5, false, 0, rising}, 2348},
		{story{160, true, 100, rising}, 41930},
		{story{1, true, 258, []int64{256, 0, 0, 0, 0, 0, 0, 0}}, 61570},
		{story{128, false, 0, []int64{0, 1000, 2000, 3000, 4000, 5000, 6000, 7000}}, 64146},
		{story{5, true, 100, []int64{13, 62891, 19587, 3824, 50636, 30947, 63137, 16498}}, 33424},
		{story{4, false, 0, []int64{1835, 62891, 19587, 3824, 50636, 30947, 63137, 16498}}, 33424},
	}
	for _, x := range climbs {
		if got := x.climb(); got != (impl.IntResult{Value: x.root}) {
			t.Errorf("ClimbOld of %v = %#v, not %d", x.story, got, x.root)
		}
		if !x.accept(x.root) || x.accept(x.root+1) || x.accept(x.root-1) || x.accept(x.root+65521) || x.accept(x.root-65521) || x.accept(-x.root) {
			t.Errorf("AcceptOld of %v takes another root than %d", x.story, x.root)
		}
	}
}

// Each code, alone and two at once: the leaf, then how many there are, then what they are.
func TestClimbOldCodes(t *testing.T) {
	good := slices.Repeat([]int64{7}, 8)
	wrong := []int64{7, 7, 7, -1, 7, 7, 7, 7}
	codes := map[string]struct {
		story
		code int64
	}{
		"a key below 0":                      {story{-1, true, 7, good}, impl.ErrRange},
		"a key of 256":                       {story{256, true, 7, good}, impl.ErrRange},
		"a key of 256 that is not there":     {story{256, false, 0, good}, impl.ErrRange},
		"a value below 0":                    {story{5, true, -1, good}, impl.ErrRange},
		"a value above MaxSum":               {story{5, true, 65521, good}, impl.ErrRange},
		"a value, and not there":             {story{5, false, 1, good}, impl.ErrRange},
		"MaxSum, and not there":              {story{5, false, 65520, good}, impl.ErrRange},
		"-1, and not there":                  {story{5, false, -1, good}, impl.ErrRange},
		"no path":                            {story{5, true, 7, nil}, impl.ErrProof},
		"no path of none":                    {story{5, false, 0, nil}, impl.ErrProof},
		"one less":                           {story{5, true, 7, good[:7]}, impl.ErrProof},
		"one more":                           {story{5, true, 7, append(slices.Clone(good), 7)}, impl.ErrProof},
		"twice as many":                      {story{5, true, 7, slices.Repeat(good, 2)}, impl.ErrProof},
		"256 more":                           {story{5, true, 7, make([]int64, 264)}, impl.ErrProof},
		"no sum in the path":                 {story{5, true, 7, wrong}, impl.ErrRange},
		"a key, one less":                    {story{256, true, 7, good[:7]}, impl.ErrRange},
		"a value, one more":                  {story{5, false, 1, append(slices.Clone(good), 7)}, impl.ErrRange},
		"a value, no path":                   {story{5, true, -1, nil}, impl.ErrRange},
		"one less, one of them no sum":       {story{5, true, 7, wrong[:7]}, impl.ErrProof},
		"one more, one of them no sum":       {story{5, true, 7, append(slices.Clone(wrong), 7)}, impl.ErrProof},
		"one more, and that one no sum":      {story{5, true, 7, append(slices.Clone(good), 65521)}, impl.ErrProof},
		"a value, no sum in the path":        {story{5, false, 7, wrong}, impl.ErrRange},
		"a key, a value, one less, no sum":   {story{-1, false, 7, wrong[:7]}, impl.ErrRange},
		"all is right":                       {story{5, true, 7, good}, impl.OK},
		"all is right of a key that is none": {story{5, false, 0, good}, impl.OK},
	}
	for name, x := range codes {
		if got := x.climb(); got.Code != x.code || got.Code != impl.OK && got.Value != 0 {
			t.Errorf("%s: ClimbOld of %v = %#v, not code %d", name, x.story, got, x.code)
		}
		if climbBy(x.story).Code != x.code {
			t.Errorf("%s: the words said over again tell %d", name, climbBy(x.story).Code)
		}
		seeStory(t, nil, x.story)
	}
}

// The edges of each argument beside those of each other one.
func TestClimbOldEdges(t *testing.T) {
	list := run(12, 3, 22)
	for _, key := range []int64{math.MinInt64, -1, 0, 1, 25, 254, 255, 256, math.MaxInt64} {
		for _, there := range []bool{false, true} {
			for _, value := range []int64{math.MinInt64, -1, 0, 1, 65520, 65521, math.MaxInt64} {
				for _, n := range []int{0, 1, 7, 8, 9, 16} {
					for _, side := range []int64{math.MinInt64, -1, 0, 1, 65520, 65521, math.MaxInt64} {
						path := slices.Repeat([]int64{500}, n)
						seeStory(t, list, story{key, there, value, path})
						if n > 0 {
							path[n-1] = side
							seeStory(t, list, story{key, there, value, path})
							path[0], path[n-1] = side, 500
							seeStory(t, list, story{key, there, value, path})
						}
					}
				}
			}
		}
	}
}

// A path with one entry that is no sum, at each place.
func TestClimbOldPlaces(t *testing.T) {
	for _, n := range noSums {
		for level := range 8 {
			x := story{77, true, 9, []int64{0, 65520, 3, 4, 5, 6, 7, 8}}.with(level, n)
			if got := x.climb(); got != (impl.IntResult{Code: impl.ErrRange}) {
				t.Fatalf("ClimbOld of %v = %#v", x, got)
			}
			seeStory(t, nil, x)
		}
	}
}

// Each key by paths that have no two alike, so that each side shows, and where it stands.
func TestClimbOldSides(t *testing.T) {
	seed := int64(7)
	next := func(below int64) int64 {
		seed = (seed*48271 + 11) % 2147483647
		return seed / 8 % below
	}
	for key := range int64(256) {
		roots := map[int64]int64{}
		for n := range 12 {
			x := story{key: key, there: n%2 == 0}
			if x.there {
				x.value = next(65521)
			}
			for range 8 {
				x.path = append(x.path, next(65521))
			}
			seeStory(t, nil, x)
			roots[x.climb().Value]++
		}
		if len(roots) < 10 {
			t.Errorf("stories of %d climb to %d roots alone", key, len(roots))
		}
	}
	for _, side := range sumEdges {
		for level := range 8 {
			for _, key := range []int64{0, 85, 170, 255} {
				seeStory(t, nil, story{key, true, 9, make([]int64, 8)}.with(level, side))
			}
		}
	}
}

// What has a code is not taken by the zero that stands beside it; and a sum of 0 is a root as another one.
func TestAcceptOldZero(t *testing.T) {
	for _, x := range []story{{256, true, 0, make([]int64, 8)}, {5, false, 1, make([]int64, 8)}, {5, true, 0, nil}, {5, true, 0, make([]int64, 7)}, {5, true, 0, make([]int64, 9)}, {5, true, 0, []int64{0, 0, 0, 0, 0, 0, 0, 65521}}} {
		for root := int64(-20); root < 20; root++ {
			if x.accept(root) {
				t.Errorf("AcceptOld of %v, %d is true", x, root)
			}
		}
	}
	zeros := 0
	for key := range int64(256) {
		x := story{key, true, 9, slices.Repeat([]int64{5}, 8)}
		for _, side := range sidesTo(key>>7, sumBack(piecesBy(x)[7]), 0) {
			zeros++
			if x := x.with(7, side); x.climb() != (impl.IntResult{}) || !x.accept(0) || x.accept(1) || x.accept(65521) {
				t.Errorf("%v climbs to %#v, not to 0", x, x.climb())
			}
		}
	}
	if zeros < 10 {
		t.Errorf("%d stories climb to 0 alone", zeros)
	}
}

// P6: of each key the old tree shows what it has, or that it has nothing, and there is no clash beside it.
func TestP6Shown(t *testing.T) {
	for _, list := range someSlots() {
		root := impl.OldRoot(list).Value
		for key := range int64(256) {
			found, path := impl.FindSlot(list, key), impl.OldPath(list, key)
			x := story{key, found.Code == impl.OK, found.Value, path.List}
			if x.climb() != (impl.IntResult{Value: root}) || !x.accept(root) {
				t.Fatalf("%v does not show %v: %#v, not %d", list, x, x.climb(), root)
			}
			if got := x.clash(list); !noClash(got, impl.OK) {
				t.Fatalf("OldClash(%v, %v) = %#v", list, x, got)
			}
		}
	}
}

// P6: what is not so is not taken by the path that there is, or it has a clash to show.
func TestP6NotSo(t *testing.T) {
	taken := 0
	for _, list := range fewLists {
		levels := oldLevels(list)
		root := levels[8][0]
		for key := range int64(256) {
			is := storyOf(list, levels, key)
			lies := []story{{key, !is.there, 0, is.path}, {key, true, is.value + 1, is.path}, {key, true, is.value - 1, is.path}, {key, true, 65520 - is.value, is.path}}
			for _, value := range []int64{is.value + 117, is.value - 117, is.value + 256, 53932, 54049, 18348} {
				lies = append(lies, story{key, true, value, is.path})
			}
			for level := range 8 {
				lies = append(lies, is.with(level, (is.path[level]+1)%65521), is.with(level, is.path[level]+117), is.with(level, max(is.path[level]-117, 0)))
			}
			for _, other := range []int64{key ^ 1, key ^ 128, 255 - key} {
				lies = append(lies, story{other, is.there, is.value, is.path}, story{key, is.there, is.value, pathBy(levels, other)})
			}
			for _, x := range lies {
				seeStory(t, list, x)
				got := x.clash(list)
				if x.accept(root) != (got.Code == impl.OK) {
					t.Fatalf("%v is taken by %d: %v, but OldClash(%v) = %#v", x, root, x.accept(root), list, got)
				}
				if got.Code != impl.OK {
					continue
				}
				now := storyOf(list, levels, x.key)
				so := x.there == now.there && x.value == now.value && slices.Equal(x.path, now.path)
				if so == got.Clash.Found || impl.IsClash(got.Clash) != got.Clash.Found {
					t.Fatalf("%v is taken by %v, and shows %#v", x, list, got)
				}
				if got.Clash.Found {
					taken++
				}
			}
		}
	}
	if taken < 100 {
		t.Errorf("%d lies are taken alone: the sweep says little", taken)
	}
}

// P6: a clash of two nodes, at each level, of what is there and of what is not.
func TestP6NodeClashes(t *testing.T) {
	var seen [8]int
	for _, list := range fewLists {
		levels := oldLevels(list)
		for _, key := range []int64{0, 1, 3, 5, 25, 85, 127, 128, 170, 200, 254, 255} {
			is := storyOf(list, levels, key)
			lies := []story{is, {key: key, there: true, value: 4321}, {key: key, there: true, value: (is.value + 1) % 65521}}
			if is.there {
				lies = append(lies, story{key: key})
			}
			for level := range 8 {
				for at, lie := range lies {
					for _, x := range forged(levels, lie, level) {
						if at == 0 && slices.Equal(x.path, is.path) {
							continue // that is what is so
						}
						seeStory(t, list, x)
						got := x.clash(list)
						if !x.accept(levels[8][0]) || !isClashOf(got, piecesBy(x)[level+1], piecesBy(is)[level+1]) || !impl.IsClash(got.Clash) {
							t.Fatalf("OldClash(%v, %v) = %#v", list, x, got)
						}
						seen[level]++
					}
				}
			}
		}
	}
	for level, n := range seen {
		if n < 20 {
			t.Errorf("%d clashes of level %d seen alone", n, level)
		}
	}
}

// P6: of two nodes that clash the one that is nearer to the root is told, and nodes are told ahead of leaves.
func TestP6FirstClash(t *testing.T) {
	list := []impl.Slot{{Key: 5, Value: 200}, {Key: 200, Value: 7}}
	levels := oldLevels(list)
	two := 0
	for _, lie := range []story{{key: 5, there: true, value: 317}, {key: 5, there: true, value: 4321}, {key: 6, there: true, value: 9}} {
		is := storyOf(list, levels, lie.key)
		for low := range 8 {
			for high := low + 1; high < 8; high++ {
				for _, below := range forged(levels, lie, low) {
					for _, side := range sidesTo(lie.key>>high, levels[high][lie.key>>high], levels[high+1][lie.key>>(high+1)]) {
						if side == is.path[high] {
							continue
						}
						x := below.with(high, side)
						if got := x.clash(list); !isClashOf(got, piecesBy(x)[high+1], piecesBy(is)[high+1]) {
							t.Fatalf("OldClash(%v, %v) = %#v, not of level %d", list, x, got, high)
						}
						two++
					}
				}
			}
		}
	}
	if two < 20 {
		t.Errorf("%d stories of two clashes seen alone", two)
	}
}

// P6: a clash of two leaves, with the path that there is. One more in the high byte weighs 139 of the low one.
func TestP6LeafClashes(t *testing.T) {
	for key := range int64(256) {
		for _, value := range []int64{139, 200, 255, 256 + 139, 5*256 + 255, 254*256 + 139, 254*256 + 255} {
			for _, turn := range []bool{false, true} {
				is, lie := value, value+117
				if turn {
					is, lie = lie, is
				}
				list := putBy([]impl.Slot{{Key: 3, Value: 30}, {Key: 90, Value: 900}}, impl.Slot{Key: key, Value: is})
				x := story{key, true, lie, impl.OldPath(list, key).List}
				got := x.clash(list)
				if !x.accept(impl.OldRoot(list).Value) || !isClashOf(got, tagged(3, []int64{key, lie}), tagged(3, []int64{key, is})) || !impl.IsClash(got.Clash) {
					t.Fatalf("OldClash(%v, %v) = %#v", list, x, got)
				}
			}
		}
	}
}

// P6: a clash of a leaf and of none, both ways; 53932 at the key 0 is one whose leaf has the sum of nothing.
func TestP6NoneClashes(t *testing.T) {
	if sumBack(tagged(3, []int64{0, 53932})) != 13 {
		t.Fatal("53932 at 0")
	}
	seen := 0
	for key := range int64(256) {
		for value := range int64(65521) {
			leaf := tagged(3, []int64{key, value})
			if impl.SumOf(leaf).Value != 13 {
				continue
			}
			seen++
			without := slices.DeleteFunc(run(11, 2, 23), func(s impl.Slot) bool { return s.Key == key })
			with := putBy(without, impl.Slot{Key: key, Value: value})
			root, path := impl.OldRoot(with).Value, impl.OldPath(with, key).List
			if root != impl.OldRoot(without).Value {
				t.Fatalf("%v has another root than %v", with, without)
			}
			none, one := story{key, false, 0, path}, story{key, true, value, path}
			if !none.accept(root) || !one.accept(root) || !noClash(none.clash(without), impl.OK) || !noClash(one.clash(with), impl.OK) {
				t.Fatalf("%v or %v is not taken", none, one)
			}
			if got := none.clash(with); !isClashOf(got, nil, leaf) || !impl.IsClash(got.Clash) {
				t.Fatalf("OldClash(%v, %v) = %#v", with, none, got)
			}
			if got := one.clash(without); !isClashOf(got, leaf, nil) || !impl.IsClash(got.Clash) {
				t.Fatalf("OldClash(%v, %v) = %#v", without, one, got)
			}
		}
	}
	if seen != 251 {
		t.Errorf("%d leaves have the sum of nothing, not 251", seen)
	}
}

// Slots that have a fault come ahead of what is told, and that ahead of the root.
func TestOldClashCodes(t *testing.T) {
	good := impl.OldPath(nil, 5).List
	wrong := slices.Repeat([]int64{-1}, 8)
	stories := []story{{5, false, 0, good}, {5, true, 7, good}, {256, false, 0, good}, {5, false, 1, good}, {5, false, 0, nil}, {5, false, 0, good[:7]}, {5, false, 0, wrong}, {-1, false, 1, wrong[:3]}}
	for name, x := range faultySlots() {
		for _, told := range stories {
			if got := told.clash(x.list); x.code != impl.OK && !noClash(got, x.code) {
				t.Errorf("%s: OldClash(%v, %v) = %#v, not code %d", name, x.list, told, got, x.code)
			}
		}
	}
	for at, code := range []int64{impl.OK, impl.ErrProof, impl.ErrRange, impl.ErrRange, impl.ErrProof, impl.ErrProof, impl.ErrRange, impl.ErrRange} {
		if got := stories[at].clash(nil); !noClash(got, code) {
			t.Errorf("OldClash(nil, %v) = %#v, not code %d", stories[at], got, code)
		}
	}
	// The root of other slots, and the path of another key.
	two := []impl.Slot{{Key: 5, Value: 100}, {Key: 200, Value: 7}}
	path := impl.OldPath(two, 5).List
	if got := impl.OldClash(two[:1], 5, true, 100, path); !noClash(got, impl.ErrProof) {
		t.Errorf("OldClash of other slots = %#v", got)
	}
	if got := impl.OldClash(two, 4, false, 0, path); !noClash(got, impl.ErrProof) {
		t.Errorf("OldClash by the path of another key = %#v", got)
	}
	if impl.AcceptOld(4, false, 0, path, impl.OldRoot(two).Value) || impl.AcceptOld(5, true, 100, path, impl.OldRoot(two[:1]).Value) {
		t.Error("AcceptOld takes another key's path, or another root")
	}
}

// askStory: all that chapter 5 answers of these arguments, laid in one text, with a mark between.
func askStory(list []impl.Slot, x story, root int64) string {
	climbed, leaf, clash := x.climb(), impl.LeafBytes(x.key, x.there, x.value), x.clash(list)
	out := tagged(byte64(x.accept(root)), []int64{climbed.Code, climbed.Value, leaf.Code, clash.Code, byte64(clash.Clash.Found)})
	return string(bytes.Join([][]byte{out, leaf.Bytes, clash.Clash.A, clash.Clash.B}, []byte("|")))
}

func byte64(is bool) int64 {
	if is {
		return 1
	}
	return 0
}

// someStories: what is so and what is not, with clashes of all kinds and with faults.
func someStories(list []impl.Slot) []story {
	levels := oldLevels(list)
	var out []story
	for _, key := range []int64{0, 5, 123, 255} {
		is := storyOf(list, levels, key)
		out = append(out, is, story{key, !is.there, 0, is.path}, story{key, true, is.value + 117, is.path}, story{key, false, 1, is.path}, story{key, is.there, is.value, is.path[:7]})
		for level := range 8 {
			x := forged(levels, story{key: key, there: true, value: 4321}, level)
			out = append(out, x[:min(len(x), 2)]...)
			out = append(out, is.with(level, 65521))
		}
	}
	return out
}

// P1: what is handed in is as it was, with the room around it; and that room is not looked at.
func TestP1OldProofArgumentsStay(t *testing.T) {
	slotRoom := []impl.Slot{{Key: 7, Value: 70}, {Key: 255, Value: 80}}
	sumRoom := []int64{5, 6, 70000}
	for _, list := range fewLists {
		slots := slices.Concat(slotRoom, list, slotRoom)
		slotsWere := slices.Clone(slots)
		for _, x := range someStories(list) {
			sums := slices.Concat(sumRoom, x.path, sumRoom)
			sumsWere := slices.Clone(sums)
			given := x
			given.path = sums[3 : 3+len(x.path)]
			if got, want := askStory(slots[2:2+len(list)], given, 9), askStory(list, x, 9); got != want {
				t.Fatalf("%v, %v with room behind: %q, not %q", list, x, got, want)
			}
			if !slices.Equal(slots, slotsWere) || !slices.Equal(sums, sumsWere) {
				t.Fatalf("%v, %v turned its arguments: %v, %v", list, x, slots, sums)
			}
		}
	}
}

// P1: what comes back shares no memory with what was handed in, nor with another answer, nor within itself.
func TestP1OldProofAnswersAreNew(t *testing.T) {
	spoil := func(piece []byte) {
		for at := range piece[:cap(piece)] {
			piece[:cap(piece)][at] = 99
		}
	}
	clashes := 0
	for _, list := range fewLists {
		for _, x := range someStories(list) {
			first := askStory(list, x, 9)
			leaf, other := impl.LeafBytes(x.key, x.there, x.value), impl.LeafBytes(x.key, x.there, x.value)
			spoil(leaf.Bytes)
			if leaf.Code == impl.OK && !sameBytes(other, leafBy(x)) {
				t.Fatalf("two answers of LeafBytes share: %#v", other)
			}
			got, same := x.clash(list), x.clash(list)
			if got.Clash.Found {
				clashes++
				b := bytes.Clone(got.Clash.B)
				spoil(got.Clash.A)
				if !bytes.Equal(got.Clash.B, b) {
					t.Fatalf("both pieces of a clash share: %#v", got)
				}
				spoil(got.Clash.B)
				if !sameClash(same, oldClashBy(list, x)) {
					t.Fatalf("two clashes share: %#v", same)
				}
			}
			if again := askStory(list, x, 9); again != first {
				t.Fatalf("%v, %v: %q, then %q", list, x, first, again)
			}
		}
	}
	if clashes < 50 {
		t.Errorf("%d clashes seen alone", clashes)
	}
}

// P1: nil and an empty list are the same value.
func TestP1NoSlotsNoPath(t *testing.T) {
	for _, x := range someStories(nil) {
		if askStory(make([]impl.Slot, 0, 3), x, 35702) != askStory(nil, x, 35702) {
			t.Errorf("%v of an empty list is another answer", x)
		}
		none, nothing := x, x
		none.path, nothing.path = make([]int64, 0, 9), nil
		if askStory(nil, none, 0) != askStory(nil, nothing, 0) {
			t.Errorf("%v of an empty path is another answer", x)
		}
	}
}

func TestP1OldProofsHangOnArguments(t *testing.T) {
	type asked struct {
		list   []impl.Slot
		story  story
		answer string
	}
	var first []asked
	for _, list := range fewLists {
		for _, x := range someStories(list) {
			for _, told := range [][]impl.Slot{list, nil, run(3, 5, 100)} {
				first = append(first, asked{told, x, askStory(told, x, 35702)})
			}
		}
	}
	// The other way round the second time, so that something kept would show.
	for _, x := range slices.Backward(first) {
		if is := askStory(x.list, x.story, 35702); is != x.answer {
			t.Fatalf("%v, %v: %q, then %q", x.list, x.story, x.answer, is)
		}
	}
}
