package tests

import (
	"math"
	"slices"
	"strings"
	"testing"
	"unsafe"

	"loop.example/g00602/impl"
)

// isPoint, written and readAt say over again, in the document's words, what
// chapter 1 asks; the sweeps hold the program against them.
func isPoint(r int64) bool {
	return r >= 0 && r <= 55295 || r >= 57344 && r <= 1114111
}

func written(r int64) string {
	six := func(from int64) byte { return byte(128 + r/from%64) }
	switch {
	case r < 128:
		return string([]byte{byte(r)})
	case r < 2048:
		return string([]byte{byte(192 + r/64), six(1)})
	case r < 65536:
		return string([]byte{byte(224 + r/4096), six(64), six(1)})
	}
	return string([]byte{byte(240 + r/262144), six(4096), six(64), six(1)})
}

func readAt(text string, at int) (int64, int, bool) {
	leads := []int64{0, 192, 224, 240}
	for size := 1; size <= 4 && at+size <= len(text); size++ {
		r := int64(text[at]) - leads[size-1]
		for _, b := range []byte(text[at+1 : at+size]) {
			r = r*64 + int64(b) - 128
		}
		if isPoint(r) && written(r) == text[at:at+size] {
			return r, size, true
		}
	}
	return 0, 0, false
}

func readAll(text string) ([]int64, bool) {
	var list []int64
	for at := 0; at < len(text); {
		r, size, ok := readAt(text, at)
		if !ok {
			return nil, false
		}
		list = append(list, r)
		at += size
	}
	return list, true
}

// sweepTexts goes through texts of one to four bytes: all of up to two bytes,
// and of three and four bytes those of bytes next to which something changes.
func sweepTexts(see func(text string)) {
	for a := range 256 {
		see(string([]byte{byte(a)}))
		for b := range 256 {
			see(string([]byte{byte(a), byte(b)}))
		}
	}
	edges := []byte{0, 65, 127, 128, 143, 144, 159, 160, 189, 191, 192, 193, 194, 195, 223, 224, 225, 236, 237, 238, 239, 240, 241, 243, 244, 245, 247, 248, 255}
	for _, a := range edges {
		for _, b := range edges {
			for _, c := range edges {
				see(string([]byte{a, b, c}))
				for _, d := range edges {
					see(string([]byte{a, b, c, d}))
				}
			}
		}
	}
}

var edgePoints = []int64{0, 1, 32, 33, 64, 65, 90, 91, 96, 97, 122, 123, 126, 127, 128, 159, 160, 161, 233, 2047, 2048, 8364, 55294, 55295, 57344, 57345, 65532, 65533, 65534, 65535, 65536, 128512, 262143, 262144, 1114110, 1114111}

var noPoints = []int64{math.MinInt64, math.MinInt64 + 1, -4294967231, -65536, -128, -1, 55296, 55297, 56319, 56320, 57342, 57343, 1114112, 1114113, 2097151, 2097152, 2147483647, 2147483648, 4294967295, 4294967296, 4294967361, math.MaxInt64 - 1, math.MaxInt64}

// Bytes that are the UTF-8 of nothing: none begins here, one is cut off, one is
// written too long, one is no code point.
var noTexts = []string{
	"\x80", "\x8f", "\xa9", "\xbf", "\xc0", "\xc1", "\xf5", "\xf8", "\xfc", "\xfe", "\xff",
	"\xc3", "\xe2", "\xe2\x82", "\xf0", "\xf0\x9f", "\xf0\x9f\x98", "\xef\xbf",
	"\xc3a", "\xc3\xc3\xa9", "\xe2\x82a", "\xe2a\xac", "\xf0\x9f\x98a", "\xef\xbfa",
	"\xc0\x80", "\xc1\x81", "\xc1\xbf", "\xe0\x80\x80", "\xe0\x9f\xbf", "\xf0\x80\x80\x80", "\xf0\x8f\xbf\xbf", "\xf0\x8f\xbf\xbd",
	"\xed\xa0\x80", "\xed\xad\xbf", "\xed\xae\x80", "\xed\xaf\xbf", "\xed\xb0\x80", "\xed\xbf\xbf",
	"\xf4\x90\x80\x80", "\xf4\xbf\xbf\xbf", "\xf5\x80\x80\x80", "\xf7\xbf\xbf\xbf", "\xf8\x88\x80\x80\x80", "\xfc\x84\x80\x80\x80\x80",
}

func TestConstants(t *testing.T) {
	codes := []int64{impl.OK, impl.ErrForm, impl.ErrMany, impl.ErrRange, impl.ErrNone, impl.ErrText, impl.ErrTaken, impl.ErrVersion, impl.ErrOwner, impl.ErrProof, impl.ErrState, impl.ErrFull}
	for number, code := range codes {
		if code != int64(number) {
			t.Errorf("code %d is %d", number, code)
		}
	}
	if impl.MaxLabel != 12 || impl.MaxRune != 1114111 {
		t.Error("bounds")
	}
}

func TestSizeOfEdges(t *testing.T) {
	sizes := map[int64]int64{0: 1, 1: 1, 65: 1, 126: 1, 127: 1, 128: 2, 233: 2, 2047: 2, 2048: 3, 8364: 3, 55295: 3, 57344: 3, 65533: 3, 65535: 3, 65536: 4, 128512: 4, 1114110: 4, 1114111: 4}
	for r, size := range sizes {
		if got := impl.SizeOf(r); got != (impl.IntResult{Value: size}) {
			t.Errorf("SizeOf(%d) = %#v, not %d", r, got, size)
		}
	}
	for _, r := range noPoints {
		if got := impl.SizeOf(r); got != (impl.IntResult{Code: impl.ErrRange}) {
			t.Errorf("SizeOf(%d) = %#v", r, got)
		}
	}
}

func TestTextOfExamples(t *testing.T) {
	texts := []struct {
		runes []int64
		text  string
	}{
		{nil, ""},
		{[]int64{}, ""},
		{[]int64{0}, "\x00"},
		{[]int64{97, 233}, "\x61\xc3\xa9"},
		{[]int64{127, 128}, "\x7f\xc2\x80"},
		{[]int64{2047, 2048}, "\xdf\xbf\xe0\xa0\x80"},
		{[]int64{55295, 57344}, "\xed\x9f\xbf\xee\x80\x80"},
		{[]int64{65533}, "\xef\xbf\xbd"},
		{[]int64{65535, 65536}, "\xef\xbf\xbf\xf0\x90\x80\x80"},
		{[]int64{8364, 128512}, "\xe2\x82\xac\xf0\x9f\x98\x80"},
		{[]int64{1114111}, "\xf4\x8f\xbf\xbf"},
	}
	for _, x := range texts {
		if got := impl.TextOf(x.runes); got != (impl.TextResult{Text: x.text}) {
			t.Errorf("TextOf(%v) = %#v", x.runes, got)
		}
		if got := impl.RunesOf(x.text); got.Code != impl.OK || !slices.Equal(got.List, x.runes) {
			t.Errorf("RunesOf(%q) = %#v", x.text, got)
		}
		if got := impl.CountRunes(x.text); got != (impl.IntResult{Value: int64(len(x.runes))}) {
			t.Errorf("CountRunes(%q) = %#v", x.text, got)
		}
	}
}

func TestTextOfWrong(t *testing.T) {
	for _, r := range noPoints {
		for _, runes := range [][]int64{{r}, {97, r}, {r, 97}, {233, r, 8364}} {
			if got := impl.TextOf(runes); got != (impl.TextResult{Code: impl.ErrRange}) {
				t.Errorf("TextOf(%v) = %#v", runes, got)
			}
		}
	}
}

func TestTextOfMany(t *testing.T) {
	for _, r := range edgePoints {
		most := slices.Repeat([]int64{r}, 50)
		if got := impl.TextOf(most); got != (impl.TextResult{Text: strings.Repeat(written(r), 50)}) {
			t.Errorf("TextOf 50 times %d = %#v", r, got)
		}
		if got := impl.TextOf(append(most, r)); got != (impl.TextResult{Code: impl.ErrMany}) {
			t.Errorf("TextOf 51 times %d = %#v", r, got)
		}
	}
	// How many there are is asked ahead of what they are.
	if got := impl.TextOf(slices.Repeat([]int64{-1}, 51)); got != (impl.TextResult{Code: impl.ErrMany}) {
		t.Errorf("TextOf 51 times -1 = %#v", got)
	}
	if got := impl.TextOf(append(slices.Repeat([]int64{97}, 49), 55296)); got != (impl.TextResult{Code: impl.ErrRange}) {
		t.Errorf("TextOf with a last one that is none = %#v", got)
	}
}

func TestRuneAtPlaces(t *testing.T) {
	text := "a\xc3\xa9\xe2\x82\xac\xf0\x9f\x98\x80\xef\xbf\xbd"
	found := map[int64]impl.RuneResult{
		0:  {Rune: 97, Size: 1},
		1:  {Rune: 233, Size: 2},
		3:  {Rune: 8364, Size: 3},
		6:  {Rune: 128512, Size: 4},
		10: {Rune: 65533, Size: 3},
	}
	for at := int64(0); at < int64(len(text)); at++ {
		want, ok := found[at]
		if !ok {
			want = impl.RuneResult{Code: impl.ErrText}
		}
		if got := impl.RuneAt(text, at); got != want {
			t.Errorf("RuneAt(%q, %d) = %#v", text, at, got)
		}
	}
}

func TestRuneAtOutside(t *testing.T) {
	for _, text := range []string{"", "a", "a\xc3\xa9", "\xff", strings.Repeat("a", 300)} {
		n := int64(len(text))
		for _, at := range []int64{math.MinInt64, -4294967296, -1, n, n + 1, n + 4294967296, math.MaxInt64} {
			if got := impl.RuneAt(text, at); got != (impl.RuneResult{Code: impl.ErrRange}) {
				t.Errorf("RuneAt(%q, %d) = %#v", text, at, got)
			}
		}
	}
}

func TestRuneAtLongText(t *testing.T) {
	// RuneAt asks nothing of how long a text is, nor of what stands elsewhere in it.
	text := strings.Repeat("\xff", 5000) + "\xc3\xa9" + strings.Repeat("\x80", 5000)
	if got := impl.RuneAt(text, 5000); got != (impl.RuneResult{Rune: 233, Size: 2}) {
		t.Errorf("in the middle: %#v", got)
	}
	for _, at := range []int64{0, 4999, 5001, 5002, 10001} {
		if got := impl.RuneAt(text, at); got != (impl.RuneResult{Code: impl.ErrText}) {
			t.Errorf("at %d: %#v", at, got)
		}
	}
}

func TestWrongTexts(t *testing.T) {
	for _, bad := range noTexts {
		if got := impl.RuneAt(bad, 0); got != (impl.RuneResult{Code: impl.ErrText}) {
			t.Errorf("RuneAt(%q, 0) = %#v", bad, got)
		}
		for _, text := range []string{bad, "a" + bad, "\xc3\xa9" + bad, "\xef\xbf\xbd" + bad, bad + "a", bad + "\xef\xbf\xbd", "ab" + bad + "c"} {
			if got := impl.RunesOf(text); got.Code != impl.ErrText || len(got.List) != 0 {
				t.Errorf("RunesOf(%q) = %#v", text, got)
			}
			if got := impl.CountRunes(text); got != (impl.IntResult{Code: impl.ErrText}) {
				t.Errorf("CountRunes(%q) = %#v", text, got)
			}
			if got := impl.LabelFault(text); got != impl.ErrText {
				t.Errorf("LabelFault(%q) = %d", text, got)
			}
			if got := impl.FoldLabel(text); got != (impl.TextResult{Code: impl.ErrText}) {
				t.Errorf("FoldLabel(%q) = %#v", text, got)
			}
		}
	}
}

func TestRunesOfMany(t *testing.T) {
	for _, text := range []string{strings.Repeat("a", 200), strings.Repeat("\xc3\xa9", 100), "ab" + strings.Repeat("\xe2\x82\xac", 66), strings.Repeat("\xf4\x8f\xbf\xbf", 50)} {
		want, _ := readAll(text)
		if got := impl.RunesOf(text); got.Code != impl.OK || !slices.Equal(got.List, want) {
			t.Errorf("RunesOf(%q) = %#v", text, got)
		}
		if got := impl.CountRunes(text); got != (impl.IntResult{Value: int64(len(want))}) {
			t.Errorf("CountRunes(%q) = %#v", text, got)
		}
	}
	for _, text := range []string{strings.Repeat("a", 201), strings.Repeat("\xff", 201), "a" + strings.Repeat("\xc3\xa9", 100), strings.Repeat("a", 100000)} {
		if got := impl.RunesOf(text); got.Code != impl.ErrMany || len(got.List) != 0 {
			t.Errorf("RunesOf of %d bytes = %#v", len(text), got)
		}
		if got := impl.CountRunes(text); got != (impl.IntResult{Code: impl.ErrMany}) {
			t.Errorf("CountRunes of %d bytes = %#v", len(text), got)
		}
	}
	if got := impl.RunesOf(strings.Repeat("a", 199) + "\xc3"); got.Code != impl.ErrText || len(got.List) != 0 {
		t.Errorf("RunesOf of 200 bytes, cut off, = %#v", got)
	}
}

func TestLabelFault(t *testing.T) {
	faults := map[string]int64{
		"":                                    impl.ErrForm,
		"a":                                   0,
		"abcdefghijkl":                        0,
		"abcdefghijklm":                       impl.ErrMany,
		strings.Repeat("\xff", 13):            impl.ErrMany,
		strings.Repeat(" ", 13):               impl.ErrMany,
		strings.Repeat("\xff", 201):           impl.ErrMany,
		strings.Repeat("\xff", 12):            impl.ErrText,
		"\xc3\xa9\xc3\xa9\xc3\xa9":            0,
		strings.Repeat("\xc3\xa9", 6):         0,
		strings.Repeat("\xc3\xa9", 6) + "a":   impl.ErrMany,
		strings.Repeat("\xf4\x8f\xbf\xbf", 3): 0,
		strings.Repeat("\xf4\x8f\xbf\xbf", 3) + "a": impl.ErrMany,
		"a b":                   impl.ErrText,
		" a":                    impl.ErrText,
		"a ":                    impl.ErrText,
		"abcdefghijk ":          impl.ErrText,
		"a\nb":                  impl.ErrText,
		"a\xc2\xa0":             impl.ErrText,
		"a\xc2\xa1":             0,
		"abcdefghijk\xc3":       impl.ErrText,
		"abcdefghijk\xc3\xa9":   impl.ErrMany,
		"\xef\xbf\xbd":          0,
		"\xef\xbf\xbda\xef\xbf": impl.ErrText,
	}
	for text, want := range faults {
		if got := impl.LabelFault(text); got != want {
			t.Errorf("LabelFault(%q) = %d, not %d", text, got, want)
		}
		if got := impl.FoldLabel(text); got.Code != want || want != 0 && got.Text != "" {
			t.Errorf("FoldLabel(%q) = %#v, not %d", text, got, want)
		}
	}
}

func TestLabelPoints(t *testing.T) {
	for r := int64(0); r < 400; r++ {
		want := int64(0)
		if r <= 32 || r >= 127 && r <= 160 {
			want = impl.ErrText
		}
		for _, text := range []string{written(r), "a" + written(r), written(r) + "b", "\xe2\x82\xac" + written(r)} {
			if got := impl.LabelFault(text); got != want {
				t.Errorf("LabelFault(%q) = %d, not %d", text, got, want)
			}
		}
	}
}

func TestFoldLabel(t *testing.T) {
	folds := map[string]string{
		"AbC":               "abc",
		"abc":               "abc",
		"AZaz":              "azaz",
		"@[`{":              "@[`{",
		"ABCDEFGHIJKL":      "abcdefghijkl",
		"MNOPQRSTUVWX":      "mnopqrstuvwx",
		"YZ09!~":            "yz09!~",
		"\xc3\x89A":         "\xc3\x89a",
		"\xc3\x80":          "\xc3\x80",
		"\xce\x91\xd0\x90":  "\xce\x91\xd0\x90",
		"\xe2\x84\xaa":      "\xe2\x84\xaa",
		"\xef\xbc\xa1X":     "\xef\xbc\xa1x",
		"\xf0\x90\x90\x80Q": "\xf0\x90\x90\x80q",
	}
	for text, want := range folds {
		if got := impl.FoldLabel(text); got != (impl.TextResult{Text: want}) {
			t.Errorf("FoldLabel(%q) = %#v, not %q", text, got, want)
		}
	}
}

// P2, first half, of all code points that there are, and of numbers beside them.
func TestP2EveryCodePoint(t *testing.T) {
	for r := int64(-3000); r < 1118000; r++ {
		size, text := impl.SizeOf(r), impl.TextOf([]int64{r})
		if !isPoint(r) {
			if size != (impl.IntResult{Code: impl.ErrRange}) || text != (impl.TextResult{Code: impl.ErrRange}) {
				t.Fatalf("%d is none: %#v, %#v", r, size, text)
			}
			continue
		}
		want := written(r)
		if text != (impl.TextResult{Text: want}) || size != (impl.IntResult{Value: int64(len(want))}) {
			t.Fatalf("%d: %#v, %#v", r, size, text)
		}
		if got := impl.RuneAt(want, 0); got != (impl.RuneResult{Rune: r, Size: int64(len(want))}) {
			t.Fatalf("%d: RuneAt %#v", r, got)
		}
		if got := impl.RunesOf(want); got.Code != impl.OK || len(got.List) != 1 || got.List[0] != r {
			t.Fatalf("%d: RunesOf %#v", r, got)
		}
		if got := impl.CountRunes(want); got != (impl.IntResult{Value: 1}) {
			t.Fatalf("%d: CountRunes %#v", r, got)
		}
	}
}

// P2, first half, the other way round: what is read is written so, and all else is not read.
func TestP2EveryText(t *testing.T) {
	sweepTexts(func(text string) {
		for at := range len(text) {
			r, size, ok := readAt(text, at)
			want := impl.RuneResult{Rune: r, Size: int64(size)}
			if !ok {
				want = impl.RuneResult{Code: impl.ErrText}
			}
			if got := impl.RuneAt(text, int64(at)); got != want {
				t.Fatalf("RuneAt(%q, %d) = %#v, not %#v", text, at, got, want)
			}
		}
		list, ok := readAll(text)
		got := impl.RunesOf(text)
		if ok != (got.Code == impl.OK) || !slices.Equal(got.List, list) || !ok && got.Code != impl.ErrText {
			t.Fatalf("RunesOf(%q) = %#v, not %v", text, got, list)
		}
		if count := impl.CountRunes(text); count != (impl.IntResult{Code: got.Code, Value: int64(len(list))}) {
			t.Fatalf("CountRunes(%q) = %#v", text, count)
		}
		if back := impl.TextOf(got.List); ok && back != (impl.TextResult{Text: text}) {
			t.Fatalf("TextOf the RunesOf %q = %#v", text, back)
		}
	})
}

// P2, first half, of lists: each edge beside each other one.
func TestP2Pairs(t *testing.T) {
	for _, a := range edgePoints {
		for _, b := range edgePoints {
			list := []int64{a, b, a}
			text := impl.TextOf(list)
			if text != (impl.TextResult{Text: written(a) + written(b) + written(a)}) {
				t.Fatalf("TextOf(%v) = %#v", list, text)
			}
			if got := impl.RunesOf(text.Text); got.Code != impl.OK || !slices.Equal(got.List, list) {
				t.Fatalf("RunesOf(%q) = %#v", text.Text, got)
			}
		}
	}
}

// P2, second half: a folded label is one, is folded for good, and is as it was but for A to Z.
func TestP2Folded(t *testing.T) {
	see := func(text string) {
		once := impl.FoldLabel(text)
		if once.Code != impl.LabelFault(text) {
			t.Fatalf("FoldLabel(%q) = %#v", text, once)
		}
		if once.Code != impl.OK {
			if once.Text != "" {
				t.Fatalf("FoldLabel(%q) = %#v", text, once)
			}
			return
		}
		if impl.LabelFault(once.Text) != impl.OK || impl.FoldLabel(once.Text) != once {
			t.Fatalf("FoldLabel(%q) = %#v is not folded for good", text, once)
		}
		was, is := impl.RunesOf(text).List, impl.RunesOf(once.Text).List
		for i, r := range was {
			if r >= 65 && r <= 90 {
				was[i] = r + 32
			}
		}
		if !slices.Equal(was, is) {
			t.Fatalf("FoldLabel(%q) = %#v", text, once)
		}
	}
	sweepTexts(see)
	for r := int64(0); r < 1114112; r++ {
		if isPoint(r) {
			see("Q" + written(r))
		}
	}
}

// P1: arguments stay as they are, answers are new memory, and a call more answers the same.
func TestP1Lists(t *testing.T) {
	room := []int64{97, 233, 8364, 128512, 1, 2}
	list := room[:4]
	first := impl.TextOf(list)
	if !slices.Equal(room, []int64{97, 233, 8364, 128512, 1, 2}) {
		t.Errorf("TextOf changed its argument: %v", room)
	}
	list[0] = 98
	if first.Text != "a\xc3\xa9\xe2\x82\xac\xf0\x9f\x98\x80" {
		t.Errorf("TextOf shares with its argument: %q", first.Text)
	}
	list[0], list[1] = 97, -1
	if got := impl.TextOf(list); got.Code != impl.ErrRange || list[1] != -1 {
		t.Errorf("TextOf with -1: %#v, %v", got, list)
	}
	read := impl.RunesOf("abc")
	again := impl.RunesOf("abc")
	read.List[0] = 1
	_ = append(read.List[:1], 7, 8)
	if !slices.Equal(again.List, []int64{97, 98, 99}) || !slices.Equal(impl.RunesOf("abc").List, again.List) {
		t.Errorf("two answers of RunesOf share: %v", again.List)
	}
}

func TestP1FoldIsNewMemory(t *testing.T) {
	for _, text := range []string{"abc", "AbC", "\xc3\xa9", "abcdefghijkl"} {
		got := impl.FoldLabel(text)
		if got.Code != impl.OK || unsafe.StringData(got.Text) == unsafe.StringData(text) {
			t.Errorf("FoldLabel(%q) shares with its argument", text)
		}
	}
}

func TestP1AnswersHangOnArguments(t *testing.T) {
	texts := append([]string{"", "a", "AbC", "a b", "\xef\xbf\xbd", "\xc3\xa9", strings.Repeat("a", 200), strings.Repeat("a", 201)}, noTexts...)
	numbers := append(slices.Clone(edgePoints), noPoints...)
	type answers struct {
		at    impl.RuneResult
		count impl.IntResult
		fault int64
		fold  impl.TextResult
		size  impl.IntResult
		text  impl.TextResult
	}
	ask := func(text string, n int64) (answers, impl.IntsResult) {
		return answers{impl.RuneAt(text, n), impl.CountRunes(text), impl.LabelFault(text), impl.FoldLabel(text), impl.SizeOf(n), impl.TextOf([]int64{n, 97})}, impl.RunesOf(text)
	}
	var first []answers
	var lists []impl.IntsResult
	for _, text := range texts {
		for _, n := range numbers {
			one, list := ask(text, n)
			first, lists = append(first, one), append(lists, list)
		}
	}
	// The other way round the second time, so that something kept would show.
	at := len(first)
	for _, text := range slices.Backward(texts) {
		for _, n := range slices.Backward(numbers) {
			at--
			one, list := ask(text, n)
			if one != first[at] || list.Code != lists[at].Code || !slices.Equal(list.List, lists[at].List) {
				t.Fatalf("%q and %d: %#v, then %#v", text, n, first[at], one)
			}
		}
	}
}
