package tests

import (
	"bytes"
	"math"
	"slices"
	"strings"
	"testing"

	"loop.example/g00602/impl"
)

// sumBack works a sum out from the last byte to the first, by the powers of 139,
// so that it has nothing in common with how the program goes.
func sumBack(data []byte) int64 {
	sum, power := int64(0), int64(1)
	for _, b := range slices.Backward(data) {
		sum = (sum + (int64(b)+1)*power) % 65521
		power = power * 139 % 65521
	}
	return (sum + 13*power) % 65521
}

func tagged(tag int64, list []int64) []byte {
	out := []byte{byte(tag)}
	for _, n := range list {
		out = append(out, byte(n/256), byte(n%256))
	}
	return out
}

func sameBytes(got impl.BytesResult, want []byte) bool {
	return got.Code == impl.OK && bytes.Equal(got.Bytes, want)
}

func noBytes(got impl.BytesResult, code int64) bool {
	return got.Code == code && len(got.Bytes) == 0
}

// noClash: Found is false, and nothing stands beside it.
func noClash(got impl.ClashResult, code int64) bool {
	return got.Code == code && !got.Clash.Found && len(got.Clash.A) == 0 && len(got.Clash.B) == 0
}

func isClashOf(got impl.ClashResult, a []byte, b []byte) bool {
	return got.Code == impl.OK && got.Clash.Found && bytes.Equal(got.Clash.A, a) && bytes.Equal(got.Clash.B, b)
}

func pieceOf(n int, step int) []byte {
	out := make([]byte, n)
	for at := range out {
		out[at] = byte(at*step + step)
	}
	return out
}

var sumEdges = []int64{0, 1, 127, 128, 255, 256, 257, 511, 512, 32767, 32768, 65279, 65280, 65519, 65520}

var noSums = []int64{math.MinInt64, math.MinInt64 + 1, -4294967296, -65536, -65521, -256, -2, -1, 65521, 65522, 65535, 65536, 65541, 131072, 2147483648, 4294967296, 4294967301, math.MaxInt64 - 1, math.MaxInt64}

var noTags = []int64{math.MinInt64, -4294967295, -256, -255, -9, -1, 0, 10, 11, 128, 255, 256, 257, 265, 65537, 4294967297, math.MaxInt64}

// Two pieces of one sum, none the same as the other one. One byte more weighs 139 of
// the byte behind it; a piece of other length is found by trying.
func clashPairs(t *testing.T) [][2][]byte {
	long := pieceOf(200, 7)
	long[198], long[199] = 5, 200
	other := slices.Clone(long)
	other[198], other[199] = 6, 61
	pairs := [][2][]byte{
		{{5, 200}, {6, 61}},
		{{0, 139}, {1, 0}},
		{{254, 255}, {255, 116}},
		{{9, 5, 200}, {9, 6, 61}},
		{long, other},
	}
	for _, a := range [][]byte{{}, {0}, {255}, pieceOf(200, 3)} {
		pairs = append(pairs, [2][]byte{a, partner(t, a)})
	}
	return pairs
}

// partner: a piece of three bytes that has the sum of a, and is not a.
func partner(t *testing.T, a []byte) []byte {
	want := sumBack(a)
	for n := range 1 << 24 {
		b := []byte{byte(n >> 16), byte(n >> 8), byte(n)}
		if sumBack(b) == want && !bytes.Equal(a, b) {
			return b
		}
	}
	t.Fatalf("no partner of %v", a)
	return nil
}

func TestSumOfExamples(t *testing.T) {
	if impl.MaxSum != 65520 {
		t.Error("MaxSum")
	}
	sums := []struct {
		data []byte
		sum  int64
	}{
		{nil, 13},
		{[]byte{}, 13},
		{[]byte{0}, 1808},
		{[]byte{255}, 2063},
		{[]byte{97}, 1905},
		{[]byte{0, 0}, 251313 - 3*65521},
		{[]byte{5, 200}, 252208 - 3*65521},
		{[]byte{6, 61}, 252208 - 3*65521},
	}
	for _, x := range sums {
		if got := impl.SumOf(x.data); got != (impl.IntResult{Value: x.sum}) {
			t.Errorf("SumOf(%v) = %#v, not %d", x.data, got, x.sum)
		}
	}
}

func TestSumOfSweep(t *testing.T) {
	low, high := int64(math.MaxInt64), int64(-1)
	see := func(data []byte) {
		want := sumBack(data)
		low, high = min(low, want), max(high, want)
		if got := impl.SumOf(data); got != (impl.IntResult{Value: want}) {
			t.Fatalf("SumOf(%v) = %#v, not %d", data, got, want)
		}
	}
	for a := range 256 {
		see([]byte{byte(a)})
		for b := range 256 {
			see([]byte{byte(a), byte(b)})
			see([]byte{byte(b), byte(a), 255, byte(a)})
		}
	}
	for n := range 201 {
		for _, step := range []int{0, 1, 7, 85, 251, 255} {
			see(pieceOf(n, step))
			see(bytes.Repeat([]byte{byte(step)}, n))
		}
	}
	// The sweep would say little if it left out the ends of what a sum is.
	if low != 0 || high != 65520 {
		t.Errorf("sums seen from %d to %d", low, high)
	}
}

func TestSumOfMany(t *testing.T) {
	for _, b := range []byte{0, 1, 255} {
		most := bytes.Repeat([]byte{b}, 200)
		if got := impl.SumOf(most); got != (impl.IntResult{Value: sumBack(most)}) {
			t.Errorf("SumOf 200 times %d = %#v", b, got)
		}
		for _, n := range []int{201, 202, 256, 400, 100000} {
			if got := impl.SumOf(bytes.Repeat([]byte{b}, n)); got != (impl.IntResult{Code: impl.ErrMany}) {
				t.Errorf("SumOf %d times %d = %#v", n, b, got)
			}
		}
	}
}

func TestTagBytes(t *testing.T) {
	lists := [][]int64{nil, {}, {0}, {5, 258}, {255, 256}, {65520}, {65520, 0, 65520}, slices.Repeat([]int64{65520}, 20), slices.Repeat([]int64{0}, 20), sumEdges}
	for tag := int64(1); tag <= 9; tag++ {
		for _, list := range lists {
			want := tagged(tag, list)
			if got := impl.TagBytes(tag, list); !sameBytes(got, want) {
				t.Errorf("TagBytes(%d, %v) = %#v", tag, list, got)
			}
			if got := impl.TagSum(tag, list); got != (impl.IntResult{Value: sumBack(want)}) {
				t.Errorf("TagSum(%d, %v) = %#v", tag, list, got)
			}
		}
	}
	if got := impl.TagBytes(3, []int64{5, 258}); !sameBytes(got, []byte{3, 0, 5, 1, 2}) {
		t.Errorf("TagBytes of 3 and 5, 258 = %#v", got)
	}
}

func TestTagBytesEverySum(t *testing.T) {
	for n := int64(-300); n <= 66000; n++ {
		got, sum := impl.TagBytes(9, []int64{1, n}), impl.TagSum(9, []int64{1, n})
		if n < 0 || n > 65520 {
			if !noBytes(got, impl.ErrRange) || sum != (impl.IntResult{Code: impl.ErrRange}) {
				t.Fatalf("%d is no sum: %#v, %#v", n, got, sum)
			}
			continue
		}
		want := []byte{9, 0, 1, byte(n / 256), byte(n % 256)}
		if !sameBytes(got, want) || sum != (impl.IntResult{Value: sumBack(want)}) {
			t.Fatalf("%d: %#v, %#v", n, got, sum)
		}
	}
}

func seeTagCode(t *testing.T, tag int64, list []int64, code int64) {
	t.Helper()
	if got := impl.TagBytes(tag, list); !noBytes(got, code) {
		t.Errorf("TagBytes(%d, %v) = %#v, not code %d", tag, list, got, code)
	}
	if got := impl.TagSum(tag, list); got != (impl.IntResult{Code: code}) {
		t.Errorf("TagSum(%d, %v) = %#v, not code %d", tag, list, got, code)
	}
}

func TestTagWrong(t *testing.T) {
	for _, tag := range noTags {
		for _, list := range [][]int64{nil, {0}, {5, 258}, {-1}, slices.Repeat([]int64{1}, 21), slices.Repeat([]int64{-1}, 21)} {
			// The tag is asked ahead of how many there are, and of what they are.
			seeTagCode(t, tag, list, impl.ErrRange)
		}
	}
	for _, tag := range []int64{1, 2, 9} {
		for _, n := range noSums {
			for _, list := range [][]int64{{n}, {0, n}, {n, 0}, {65520, n, 1}, append(slices.Repeat([]int64{1}, 19), n)} {
				seeTagCode(t, tag, list, impl.ErrRange)
			}
			// How many there are is asked ahead of what they are.
			seeTagCode(t, tag, slices.Repeat([]int64{n}, 21), impl.ErrMany)
			seeTagCode(t, tag, append(slices.Repeat([]int64{1}, 20), n), impl.ErrMany)
		}
		seeTagCode(t, tag, slices.Repeat([]int64{0}, 21), impl.ErrMany)
		seeTagCode(t, tag, slices.Repeat([]int64{65520}, 5000), impl.ErrMany)
	}
}

// P3, second half: pieces of two tags are never the same; nor are those of one tag and two lists.
func TestP3Tags(t *testing.T) {
	lists := [][]int64{nil, {0}, {0, 0}, {1}, {256}, {257}, {1, 2}, {2, 1}, {258}, {1, 0}, {0, 1}, {65520}, {513, 769}, {2, 3}, slices.Repeat([]int64{0}, 20), slices.Repeat([]int64{257}, 20), slices.Repeat([]int64{257}, 19)}
	seen := map[string]bool{}
	for tag := int64(1); tag <= 9; tag++ {
		for _, list := range lists {
			got := impl.TagBytes(tag, list)
			if got.Code != impl.OK || len(got.Bytes) != 1+2*len(list) || int64(got.Bytes[0]) != tag {
				t.Fatalf("TagBytes(%d, %v) = %#v", tag, list, got)
			}
			if seen[string(got.Bytes)] {
				t.Errorf("TagBytes(%d, %v) = %#v is another one's", tag, list, got)
			}
			seen[string(got.Bytes)] = true
		}
	}
}

// P3, first half: two pieces that are not the same, of one sum.
func TestP3Clashes(t *testing.T) {
	for _, pair := range clashPairs(t) {
		for _, x := range [][2][]byte{pair, {pair[1], pair[0]}} {
			got := impl.LookClash(x[0], x[1])
			if !isClashOf(got, x[0], x[1]) {
				t.Errorf("LookClash(%v, %v) = %#v", x[0], x[1], got)
			}
			if !impl.IsClash(got.Clash) || !impl.IsClash(impl.Clash{Found: true, A: x[0], B: x[1]}) {
				t.Errorf("IsClash of %v, %v is false", x[0], x[1])
			}
			if impl.IsClash(impl.Clash{A: x[0], B: x[1]}) {
				t.Errorf("IsClash of %v, %v, Found false, is true", x[0], x[1])
			}
		}
	}
}

func TestP3NoClashes(t *testing.T) {
	pieces := [][]byte{nil, {}, {0}, {1}, {5}, {6}, {0, 0}, {5, 200}, {5, 201}, {200, 5}, {6, 63}, pieceOf(200, 7), pieceOf(199, 7), bytes.Repeat([]byte{0}, 200)}
	for _, a := range pieces {
		for _, b := range pieces {
			if !bytes.Equal(a, b) && sumBack(a) == sumBack(b) {
				t.Fatalf("%v and %v are a clash", a, b)
			}
			if got := impl.LookClash(a, bytes.Clone(b)); !noClash(got, impl.OK) {
				t.Errorf("LookClash(%v, %v) = %#v", a, b, got)
			}
			for _, found := range []bool{false, true} {
				if impl.IsClash(impl.Clash{Found: found, A: a, B: bytes.Clone(b)}) {
					t.Errorf("IsClash(%v, %v, %v) is true", found, a, b)
				}
			}
		}
	}
	// nil and an empty piece are the same one.
	if !noClash(impl.LookClash(nil, []byte{}), impl.OK) || impl.IsClash(impl.Clash{Found: true, B: []byte{}}) || impl.IsClash(impl.Clash{}) || impl.IsClash(impl.Clash{Found: true}) {
		t.Error("nothing and nothing are a clash")
	}
}

// P3 of all pieces of two bytes beside some: a clash is one just where sums are the same and pieces are not.
func TestP3Sweep(t *testing.T) {
	clashes := 0
	for _, a := range [][]byte{{}, {0}, {5, 200}, {0, 139}, {255, 255}, {97, 98}, {1, 2, 3}} {
		for n := range 1 << 16 {
			b := []byte{byte(n >> 8), byte(n)}
			want := !bytes.Equal(a, b) && sumBack(a) == sumBack(b)
			got := impl.LookClash(a, b)
			if want && !isClashOf(got, a, b) || !want && !noClash(got, impl.OK) {
				t.Fatalf("LookClash(%v, %v) = %#v", a, b, got)
			}
			if impl.IsClash(impl.Clash{Found: true, A: a, B: b}) != want {
				t.Fatalf("IsClash of %v, %v is not %v", a, b, want)
			}
			if want {
				clashes++
			}
		}
	}
	if clashes < 5 {
		t.Errorf("%d clashes seen alone", clashes)
	}
}

func TestLookClashMany(t *testing.T) {
	short, most, long := []byte{5, 200}, pieceOf(200, 7), pieceOf(201, 7)
	other := slices.Clone(long)
	other[0], other[1] = other[0]+1, other[1]-139
	for _, x := range [][2][]byte{{long, short}, {short, long}, {long, nil}, {nil, long}, {most, long}, {long, most}, {long, long}, {long, other}, {make([]byte, 5000), {1}}} {
		if got := impl.LookClash(x[0], x[1]); !noClash(got, impl.ErrMany) {
			t.Errorf("LookClash of %d and %d bytes = %#v", len(x[0]), len(x[1]), got)
		}
		if impl.IsClash(impl.Clash{Found: true, A: x[0], B: x[1]}) {
			t.Errorf("IsClash of %d and %d bytes is true", len(x[0]), len(x[1]))
		}
	}
	// A piece that is too long has no sum: its code is not one, nor the zero that stands beside it.
	zero := partnerOfSum(t, 0)
	if impl.IsClash(impl.Clash{Found: true, A: zero, B: long}) || impl.IsClash(impl.Clash{Found: true, A: long, B: zero}) {
		t.Error("a piece of sum 0 and one that is too long are a clash")
	}
}

func partnerOfSum(t *testing.T, sum int64) []byte {
	for n := range 1 << 24 {
		b := []byte{byte(n >> 16), byte(n >> 8), byte(n)}
		if sumBack(b) == sum {
			return b
		}
	}
	t.Fatalf("no piece of sum %d", sum)
	return nil
}

func TestKeyOf(t *testing.T) {
	labels := []string{"a", "A", "z", "~", "!", "abc", "AbC", "ABC", "abcdefghijkl", "ABCDEFGHIJKL", "abcdefghijkL", "\xc3\xa9", "\xc3\x89", "x\xe2\x82\xac", "\xf4\x8f\xbf\xbfQ", "\xef\xbf\xbd", "zz9", "0", "@[`{"}
	for _, label := range labels {
		want := sumBack([]byte(foldedBy(label))) % 256
		if got := impl.KeyOf(label); got != (impl.IntResult{Value: want}) {
			t.Errorf("KeyOf(%q) = %#v, not %d", label, got, want)
		}
	}
	if got := impl.KeyOf("a"); got != (impl.IntResult{Value: 113}) {
		t.Errorf("KeyOf(a) = %#v", got)
	}
}

func foldedBy(label string) string {
	return strings.Map(func(r rune) rune {
		if r >= 65 && r <= 90 {
			return r + 32
		}
		return r
	}, label)
}

func TestKeyOfWrong(t *testing.T) {
	wrong := map[string]int64{
		"":                          impl.ErrForm,
		"abcdefghijklm":             impl.ErrMany,
		strings.Repeat("\xff", 13):  impl.ErrMany,
		strings.Repeat(" ", 13):     impl.ErrMany,
		strings.Repeat("a", 201):    impl.ErrMany,
		strings.Repeat("\xff", 201): impl.ErrMany,
		"a b":                       impl.ErrText,
		" ":                         impl.ErrText,
		"a\x7f":                     impl.ErrText,
		"a\xc2\xa0":                 impl.ErrText,
		"\xc3":                      impl.ErrText,
		"abcdefghijk\xff":           impl.ErrText,
	}
	for label, code := range wrong {
		if got := impl.KeyOf(label); got != (impl.IntResult{Code: code}) {
			t.Errorf("KeyOf(%q) = %#v, not code %d", label, got, code)
		}
	}
}

// P2, where KeyOf leans on it: labels that differ in their folding alone have one key.
func TestP2Keys(t *testing.T) {
	keys := map[int64]bool{}
	sweepTexts(func(text string) {
		got := impl.KeyOf(text)
		folded := impl.FoldLabel(text)
		if folded.Code != impl.OK {
			if got != (impl.IntResult{Code: folded.Code}) {
				t.Fatalf("KeyOf(%q) = %#v", text, got)
			}
			return
		}
		if got != (impl.IntResult{Value: sumBack([]byte(folded.Text)) % 256}) || got != impl.KeyOf(folded.Text) || got != impl.KeyOf(strings.Map(raised, text)) {
			t.Fatalf("KeyOf(%q) = %#v", text, got)
		}
		keys[got.Value] = true
	})
	if len(keys) != 256 {
		t.Errorf("%d keys seen", len(keys))
	}
}

func raised(r rune) rune {
	if r >= 97 && r <= 122 {
		return r - 32
	}
	return r
}

// P1: what is handed in is as it was, with the room behind it.
func TestP1SumArgumentsStay(t *testing.T) {
	room := []byte{5, 200, 77, 78}
	other := []byte{6, 61, 87, 88}
	impl.SumOf(room[:2])
	impl.IsClash(impl.Clash{Found: true, A: room[:2], B: other[:2]})
	impl.LookClash(room[:2], other[:2])
	impl.LookClash(room[:2], room[:2])
	if !bytes.Equal(room, []byte{5, 200, 77, 78}) || !bytes.Equal(other, []byte{6, 61, 87, 88}) {
		t.Errorf("pieces changed: %v, %v", room, other)
	}
	numbers := []int64{5, 258, 65520, -1, 7}
	for n := range len(numbers) + 1 {
		impl.TagBytes(3, numbers[:n])
		impl.TagSum(3, numbers[:n])
		impl.TagBytes(0, numbers[:n])
	}
	if !slices.Equal(numbers, []int64{5, 258, 65520, -1, 7}) {
		t.Errorf("numbers changed: %v", numbers)
	}
}

// P1: what comes back shares no memory with what was handed in, nor within itself.
func TestP1SumAnswersAreNew(t *testing.T) {
	a, b := []byte{5, 200, 1, 1}, []byte{6, 61, 2, 2}
	got := impl.LookClash(a[:2], b[:2])
	again := impl.LookClash(a[:2], b[:2])
	a[0], b[0] = 100, 101
	if !isClashOf(got, []byte{5, 200}, []byte{6, 61}) {
		t.Errorf("LookClash shares with its arguments: %#v", got)
	}
	got.Clash.A = append(got.Clash.A, 9, 9, 9)
	got.Clash.A[0], got.Clash.A[1] = 50, 51
	if !bytes.Equal(got.Clash.B, []byte{6, 61}) || !isClashOf(again, []byte{5, 200}, []byte{6, 61}) {
		t.Errorf("answers share: %#v, %#v", got, again)
	}
	if !bytes.Equal(a, []byte{100, 200, 1, 1}) || !bytes.Equal(b, []byte{101, 61, 2, 2}) {
		t.Errorf("LookClash hands out its arguments: %v, %v", a, b)
	}
	one, two := impl.TagBytes(3, []int64{5}), impl.TagBytes(3, []int64{5})
	one.Bytes[0] = 4
	_ = append(one.Bytes[:1], 8, 8)
	if !sameBytes(two, []byte{3, 0, 5}) || !sameBytes(impl.TagBytes(3, []int64{5}), []byte{3, 0, 5}) {
		t.Errorf("two answers of TagBytes share: %#v", two)
	}
}

// P1: one piece that is handed in twice over, of overlapping memory, is looked at as two.
func TestP1SumOverlap(t *testing.T) {
	whole := []byte{5, 200, 6, 61}
	got := impl.LookClash(whole[:2], whole[2:])
	if !isClashOf(got, []byte{5, 200}, []byte{6, 61}) {
		t.Errorf("LookClash of two halves = %#v", got)
	}
	got.Clash.A = append(got.Clash.A, 1, 1)
	if !bytes.Equal(got.Clash.B, []byte{6, 61}) || !bytes.Equal(whole, []byte{5, 200, 6, 61}) {
		t.Errorf("halves are shared: %#v, %v", got, whole)
	}
}

func TestP1SumsHangOnArguments(t *testing.T) {
	pieces := [][]byte{nil, {0}, {5, 200}, {6, 61}, {255}, pieceOf(200, 7), pieceOf(201, 7)}
	tags := append([]int64{1, 5, 9}, noTags...)
	numbers := append(slices.Clone(sumEdges), noSums...)
	labels := append([]string{"", "a", "A", "abcdefghijkl", "abcdefghijklm", "a b"}, noTexts...)
	type answers struct {
		sum, tag, key impl.IntResult
		piece         string
		clash         bool
		found         string
	}
	ask := func(n int) answers {
		a, b := pieces[n%len(pieces)], pieces[n/len(pieces)%len(pieces)]
		tag, list := tags[n%len(tags)], []int64{numbers[n%len(numbers)], 3}
		look := impl.LookClash(a, b)
		return answers{impl.SumOf(a), impl.TagSum(tag, list), impl.KeyOf(labels[n%len(labels)]), string(impl.TagBytes(tag, list).Bytes), impl.IsClash(impl.Clash{Found: true, A: a, B: b}), string(look.Clash.A) + "|" + string(look.Clash.B)}
	}
	var first []answers
	for n := range 5000 {
		first = append(first, ask(n))
	}
	// The other way round the second time, so that something kept would show.
	for n, was := range slices.Backward(first) {
		if is := ask(n); is != was {
			t.Fatalf("%d: %#v, then %#v", n, was, is)
		}
	}
}
