package tests

import (
	"bytes"
	"fmt"
	"math"
	"regexp"
	"slices"
	"strconv"
	"strings"
	"testing"
	"unsafe"

	"loop.example/g00602/impl"
)

// labelCode, recordCode, packedBy, textBy, unpackedBy and parsedBy say over again, in the
// document's words, what chapter 3 asks (and what it asks of chapter 1); the sweeps hold
// the program against them.
func labelCode(label string) int64 {
	if len(label) == 0 {
		return impl.ErrForm
	}
	if len(label) > 12 {
		return impl.ErrMany
	}
	runes, ok := readAll(label)
	if !ok || slices.ContainsFunc(runes, func(r int64) bool { return r <= 32 || r >= 127 && r <= 160 }) {
		return impl.ErrText
	}
	return impl.OK
}

func recordCode(r impl.Record) int64 {
	if code := labelCode(r.Label); code != impl.OK {
		return code
	}
	if strings.ContainsAny(r.Label, "ABCDEFGHIJKLMNOPQRSTUVWXYZ") {
		return impl.ErrForm
	}
	if r.Version <= 0 || r.Version >= 1000 || min(r.Owner, r.Pin) < 0 || max(r.Owner, r.Pin) > 65520 {
		return impl.ErrRange
	}
	return impl.OK
}

func packedBy(r impl.Record) []byte {
	numbers := tagged(0, []int64{r.Version, r.Owner, r.Pin})[1:]
	return slices.Concat([]byte{1, byte(len(r.Label))}, []byte(r.Label), numbers)
}

func textBy(r impl.Record) string {
	return fmt.Sprintf("%s %d %d %d", r.Label, r.Version, r.Owner, r.Pin)
}

// unpackedBy takes the last six bytes for the numbers, whatever the length byte says, and
// looks whether what it has is written as data.
func unpackedBy(data []byte) impl.RecordResult {
	if len(data) < 8 {
		return impl.RecordResult{Code: impl.ErrText}
	}
	tail := data[len(data)-6:]
	two := func(at int) int64 { return int64(tail[at])*256 + int64(tail[at+1]) }
	r := impl.Record{Label: string(data[2 : len(data)-6]), Version: two(0), Owner: two(2), Pin: two(4)}
	if recordCode(r) != impl.OK || !bytes.Equal(packedBy(r), data) {
		return impl.RecordResult{Code: impl.ErrText}
	}
	return impl.RecordResult{Record: r}
}

var recordForm = regexp.MustCompile(`(?s)^(.*) (\d{1,5}) (\d{1,5}) (\d{1,5})$`)

func parsedBy(text string) impl.RecordResult {
	parts := recordForm.FindStringSubmatch(text)
	if parts == nil {
		return impl.RecordResult{Code: impl.ErrText}
	}
	number := func(word string) int64 { n, _ := strconv.ParseInt(word, 10, 64); return n }
	r := impl.Record{Label: parts[1], Version: number(parts[2]), Owner: number(parts[3]), Pin: number(parts[4])}
	if recordCode(r) != impl.OK || textBy(r) != text {
		return impl.RecordResult{Code: impl.ErrText}
	}
	return impl.RecordResult{Record: r}
}

// seeRecord holds all that the program says of r against the document's words: the code of
// each function and nothing beside it, or what it answers, and what is read back from that (P4).
func seeRecord(t *testing.T, r impl.Record) {
	t.Helper()
	code := recordCode(r)
	fault, packed, sum, text := impl.RecordFault(r), impl.PackRecord(r), impl.RecordSum(r), impl.RecordText(r)
	if fault != code {
		t.Fatalf("RecordFault(%#v) = %d, not %d", r, fault, code)
	}
	if code != impl.OK {
		if !noBytes(packed, code) || sum != (impl.IntResult{Code: code}) || text != (impl.TextResult{Code: code}) {
			t.Fatalf("%#v, not code %d: %#v, %#v, %#v", r, code, packed, sum, text)
		}
		return
	}
	data := packedBy(r)
	if !sameBytes(packed, data) || sum != (impl.IntResult{Value: sumBack(data)}) || text != (impl.TextResult{Text: textBy(r)}) {
		t.Fatalf("%#v: %#v, %#v, %#v", r, packed, sum, text)
	}
	if got := impl.ReadRecord(packed.Bytes); got != (impl.RecordResult{Record: r}) {
		t.Fatalf("ReadRecord(PackRecord(%#v)) = %#v", r, got)
	}
	if got := impl.ParseRecord(text.Text); got != (impl.RecordResult{Record: r}) {
		t.Fatalf("ParseRecord(RecordText(%#v)) = %#v", r, got)
	}
}

func seeData(t *testing.T, data []byte) {
	t.Helper()
	if got, want := impl.ReadRecord(data), unpackedBy(data); got != want {
		t.Fatalf("ReadRecord(%q) = %#v, not %#v", data, got, want)
	}
}

func seeText(t *testing.T, text string) {
	t.Helper()
	if got, want := impl.ParseRecord(text), parsedBy(text); got != want {
		t.Fatalf("ParseRecord(%q) = %#v, not %#v", text, got, want)
	}
}

var noText = impl.RecordResult{Code: impl.ErrText}

var goodLabels = []string{"a", "z", "0", "~", "!", "ab", "@[`{", "abcdefghijkl", "\xc3\xa9", "\xc3\x89", "a\xc2\xa1", "\xef\xbf\xbd", "x\xe2\x82\xac", strings.Repeat("\xc3\xa9", 6), strings.Repeat("\xf4\x8f\xbf\xbf", 3), "1", "12", "2\xc3\xa92"}

var notFolded = []string{"A", "Z", "aB", "Ab", "AB", "abcdefghijkL", "ABCDEFGHIJKL", "\xc3\xa9M", "N\xf4\x8f\xbf\xbf"}

var noLabels = []string{"", "abcdefghijklm", "ABCDEFGHIJKLM", strings.Repeat("\xc3\xa9", 6) + "a", strings.Repeat(" ", 13), strings.Repeat("\xff", 13), strings.Repeat("a", 255), strings.Repeat("a", 256), strings.Repeat("a", 257), strings.Repeat("a", 201), " ", "a b", "A b", " a", "a ", "\x00", "a\n", "\x1f", "a\x7f", "a\xc2\xa0", "A\xc2\x80", "\xff", "A\xff", "\xc3", "abcdefghijk\xc3"}

var someRecords = []impl.Record{
	{Label: "ab", Version: 2, Owner: 258, Pin: 7},
	{Label: "a", Version: 1},
	{Label: "abcdefghijkl", Version: 999, Owner: 65520, Pin: 65520},
	{Label: "\xc3\xa9", Version: 10, Owner: 10000, Pin: 100},
	{Label: "1", Version: 1, Owner: 1, Pin: 1},
	{Label: "x\xe2\x82\xac!", Version: 256, Owner: 255, Pin: 65280},
}

func TestRecordExamples(t *testing.T) {
	r := impl.Record{Label: "ab", Version: 2, Owner: 258, Pin: 7}
	data := []byte{1, 2, 97, 98, 0, 2, 1, 2, 0, 7}
	if got := impl.PackRecord(r); !sameBytes(got, data) {
		t.Errorf("PackRecord = %#v", got)
	}
	if got := impl.RecordText(r); got != (impl.TextResult{Text: "ab 2 258 7"}) {
		t.Errorf("RecordText = %#v", got)
	}
	if got := impl.RecordSum(r); got != (impl.IntResult{Value: sumBack(data)}) {
		t.Errorf("RecordSum = %#v", got)
	}
	if impl.ReadRecord(data) != (impl.RecordResult{Record: r}) || impl.ParseRecord("ab 2 258 7") != (impl.RecordResult{Record: r}) {
		t.Error("ab is not read back")
	}
	least := impl.Record{Label: "~", Version: 1}
	if !sameBytes(impl.PackRecord(least), []byte{1, 1, 126, 0, 1, 0, 0, 0, 0}) || impl.RecordText(least).Text != "~ 1 0 0" {
		t.Errorf("the least one: %#v, %#v", impl.PackRecord(least), impl.RecordText(least))
	}
	most := impl.Record{Label: "abcdefghijkl", Version: 999, Owner: 65520, Pin: 65520}
	if !sameBytes(impl.PackRecord(most), []byte("\x01\x0cabcdefghijkl\x03\xe7\xff\xf0\xff\xf0")) || impl.RecordText(most).Text != "abcdefghijkl 999 65520 65520" {
		t.Errorf("the most: %#v, %#v", impl.PackRecord(most), impl.RecordText(most))
	}
}

func TestRecordFaultCodes(t *testing.T) {
	faults := []struct {
		record impl.Record
		code   int64
	}{
		{impl.Record{}, impl.ErrForm},
		{impl.Record{Version: 1}, impl.ErrForm},
		{impl.Record{Label: "a", Version: 1}, impl.OK},
		{impl.Record{Label: "a"}, impl.ErrRange},
		{impl.Record{Label: "a", Version: 999}, impl.OK},
		{impl.Record{Label: "a", Version: 1000}, impl.ErrRange},
		{impl.Record{Label: "a", Version: -1}, impl.ErrRange},
		{impl.Record{Label: "a", Version: 1, Owner: 65520, Pin: 65520}, impl.OK},
		{impl.Record{Label: "a", Version: 1, Owner: 65521}, impl.ErrRange},
		{impl.Record{Label: "a", Version: 1, Owner: -1}, impl.ErrRange},
		{impl.Record{Label: "a", Version: 1, Pin: 65521}, impl.ErrRange},
		{impl.Record{Label: "a", Version: 1, Pin: -1}, impl.ErrRange},
		{impl.Record{Label: "A", Version: 1}, impl.ErrForm},
		// Two faults at once: what the label is, then its folding, then the numbers.
		{impl.Record{Label: "A"}, impl.ErrForm},
		{impl.Record{Label: "A", Version: 1000, Owner: -1, Pin: 65521}, impl.ErrForm},
		{impl.Record{Label: "ABCDEFGHIJKLM", Version: 1}, impl.ErrMany},
		{impl.Record{Label: "ABCDEFGHIJKLM", Version: 0, Pin: -1}, impl.ErrMany},
		{impl.Record{Label: "A b", Version: 1}, impl.ErrText},
		{impl.Record{Label: "A\xff", Version: 0, Owner: 65521}, impl.ErrText},
		{impl.Record{Label: strings.Repeat("\xff", 13)}, impl.ErrMany},
		{impl.Record{Owner: -1, Pin: math.MaxInt64}, impl.ErrForm},
	}
	for _, x := range faults {
		if got := impl.RecordFault(x.record); got != x.code {
			t.Errorf("RecordFault(%#v) = %d, not %d", x.record, got, x.code)
		}
		seeRecord(t, x.record)
	}
}

// Every label beside every number, so that two faults at once, and three, show the order of codes.
func TestRecordEdges(t *testing.T) {
	versions := []int64{math.MinInt64, -65535, -1, 0, 1, 2, 9, 10, 99, 100, 255, 256, 998, 999, 1000, 1001, 65537, 4294967297, math.MaxInt64}
	sums := []int64{math.MinInt64, -65536, -1, 0, 1, 255, 256, 9999, 10000, 65519, 65520, 65521, 65536, 131072, 4294967296, math.MaxInt64}
	good := 0
	for _, label := range slices.Concat(goodLabels, notFolded, noLabels, noTexts) {
		for _, version := range versions {
			for _, owner := range sums {
				for _, pin := range sums {
					r := impl.Record{Label: label, Version: version, Owner: owner, Pin: pin}
					seeRecord(t, r)
					if recordCode(r) == impl.OK {
						good++
					}
				}
			}
		}
	}
	if want := len(goodLabels) * 10 * 8 * 8; good != want {
		t.Errorf("%d records seen, not %d", good, want)
	}
}

// P4 of every version and every sum that there is, and of numbers beside them.
func TestP4EveryNumber(t *testing.T) {
	for n := int64(-300); n <= 66000; n++ {
		seeRecord(t, impl.Record{Label: "ab", Version: n, Owner: 3, Pin: 4})
		seeRecord(t, impl.Record{Label: "a", Version: 7, Owner: n, Pin: 65520})
		seeRecord(t, impl.Record{Label: "abcdefghijkl", Version: 999, Owner: 0, Pin: n})
	}
}

// P4 of labels of all bytes: a record is read back just where it is one.
func TestP4EveryLabel(t *testing.T) {
	sweepTexts(func(text string) {
		r := impl.Record{Label: text, Version: 3, Owner: 1000, Pin: 50000}
		seeRecord(t, r)
		if recordCode(r) != impl.OK && (impl.ReadRecord(packedBy(r)) != noText || impl.ParseRecord(textBy(r)) != noText) {
			t.Fatalf("%q is read as a label", text)
		}
	})
}

// P4: two records are never written alike.
func TestP4WrittenOnce(t *testing.T) {
	seen := map[string]impl.Record{}
	for _, label := range goodLabels {
		for _, version := range []int64{1, 2, 11, 12, 112, 256, 999} {
			for _, sum := range []int64{0, 1, 2, 11, 112, 1211, 256, 65520} {
				for _, r := range []impl.Record{{Label: label, Version: version, Owner: sum, Pin: 1}, {Label: label, Version: version, Owner: 1, Pin: sum}} {
					for _, written := range []string{string(impl.PackRecord(r).Bytes), impl.RecordText(r).Text} {
						if was, there := seen[written]; there && was != r {
							t.Fatalf("%#v and %#v are both written %q", was, r, written)
						}
						seen[written] = r
					}
				}
			}
		}
	}
}

func TestReadRecordWrong(t *testing.T) {
	wrong := []string{
		"", "\x00", "\x01", "\x02", "\x01\x00", "\x01\x01", "\x01\x0c", "\x01\xff",
		"\x01\x00\x00\x01\x00\x00\x00\x00",  // a label of no byte
		"\x01\x01\x00\x01\x00\x00\x00\x00",  // no room for the label
		"\x00\x01a\x00\x01\x00\x00\x00\x00", // a first byte that is not 1
		"\x02\x01a\x00\x01\x00\x00\x00\x00",
		"\xff\x01a\x00\x01\x00\x00\x00\x00",
		"1\x01a\x00\x01\x00\x00\x00\x00",
		"\x01\x00a\x00\x01\x00\x00\x00\x00", // a length byte that does not fit
		"\x01\x02a\x00\x01\x00\x00\x00\x00",
		"\x01\xffa\x00\x01\x00\x00\x00\x00",
		"\x01\x01a\x00\x01\x00\x00\x00",         // one byte short
		"\x01\x01a\x00\x01\x00\x00\x00\x00\x00", // one byte behind the end
		"\x01\x01a\x00\x01\x00\x00\x00\x00\x0a",
		"\x00\x01\x01a\x00\x01\x00\x00\x00\x00",                              // one byte ahead
		"\x01\x01a\x00\x01\x00\x00\x00\x00\x01\x01a\x00\x01\x00\x00\x00\x00", // two of them
		"\x01\x01A\x00\x01\x00\x00\x00\x00",                                  // not folded
		"\x01\x01 \x00\x01\x00\x00\x00\x00",                                  // no label
		"\x01\x01\xff\x00\x01\x00\x00\x00\x00",
		"\x01\x01\xc3\x00\x01\x00\x00\x00\x00",
		"\x01\x01a\x00\x00\x00\x00\x00\x00", // the version 0
		"\x01\x01a\x03\xe8\x00\x00\x00\x00", // the version 1000
		"\x01\x01a\xff\xff\x00\x00\x00\x00",
		"\x01\x01a\x00\x01\xff\xf1\x00\x00",             // an owner above MaxSum
		"\x01\x01a\x00\x01\x00\x00\xff\xf1",             // a pin above MaxSum
		"\x01\x0dabcdefghijklm\x00\x01\x00\x00\x00\x00", // a label of 13 bytes
		"\x01\xff" + strings.Repeat("a", 255) + "\x00\x01\x00\x00\x00\x00",
		"\x01\x00" + strings.Repeat("a", 256) + "\x00\x01\x00\x00\x00\x00",
		"\x01\x01" + strings.Repeat("a", 257) + "\x00\x01\x00\x00\x00\x00",
		strings.Repeat("\x01", 100000), strings.Repeat("\xff", 201),
		"a 1 0 0",
	}
	for _, data := range wrong {
		if got := impl.ReadRecord([]byte(data)); got != noText {
			t.Errorf("ReadRecord(%q) = %#v", data, got)
		}
	}
	if impl.ReadRecord(nil) != noText {
		t.Errorf("ReadRecord(nil) = %#v", impl.ReadRecord(nil))
	}
	// Right beside all of these.
	if got := impl.ReadRecord([]byte("\x01\x01a\x00\x01\x00\x00\x00\x00")); got != (impl.RecordResult{Record: impl.Record{Label: "a", Version: 1}}) {
		t.Errorf("ReadRecord of a = %#v", got)
	}
}

// Every byte of some records in the place of every byte, left out, or more than there are.
func TestReadRecordAround(t *testing.T) {
	for _, r := range someRecords {
		data := packedBy(r)
		for at := range len(data) + 1 {
			seeData(t, data[:at])
			seeData(t, data[at:])
			for b := range 256 {
				seeData(t, slices.Insert(slices.Clone(data), at, byte(b)))
				if at < len(data) {
					other := slices.Clone(data)
					other[at] = byte(b)
					seeData(t, other)
				}
			}
			if at < len(data) {
				seeData(t, slices.Delete(slices.Clone(data), at, at+1))
			}
		}
	}
}

// Every length byte beside every length that there is.
func TestReadRecordLengths(t *testing.T) {
	good := 0
	for length := range 256 {
		for label := range 300 {
			data := slices.Concat([]byte{1, byte(length)}, bytes.Repeat([]byte{'q'}, label), []byte{0, 1, 0, 2, 0, 3})
			seeData(t, data)
			if impl.ReadRecord(data).Code == impl.OK {
				good++
			}
		}
	}
	if good != 12 {
		t.Errorf("%d are records, not 12", good)
	}
}

func TestParseRecordWrong(t *testing.T) {
	wrong := []string{
		"", " ", "   ", "    ", "a", "a 1", "a 1 0", "a 1 0 0 0", "a 1 0 0 a", "a100", "a1 0 0",
		" 1 0 0", " a 1 0 0", "a 1 0 0 ", "a 1 0 0  ", "a 1 0 ", "a 1  0", "a  0 0", // a blank ahead, behind, or no word
		"a  1 0 0", "a 1  0 0", "a 1 0  0", // two blanks in a row
		"a 1 0 0\n", "\na 1 0 0", "a\n1 0 0", "a 1 0\n0", "a\t1 0 0", "a 1\t0 0", "a 1 0\x000", "a 1 0 0\x00", "a\xc2\xa01 0 0",
		"a 01 0 0", "a 001 0 0", "a 1 00 0", "a 1 0 00", "a 1 07 0", "a 1 0 07", "a 00001 0 0", "a 1 000000 0", // leading zeros
		"a +1 0 0", "a 1 +0 0", "a 1 0 +0", "a -1 0 0", "a 1 -1 0", "a 1 0 -1", "a 1 -0 0", "a 1 0 -0", // a sign
		"a 0 0 0", "a 1000 0 0", "a 10000 0 0", "a 99999 0 0", "a 1 65521 0", "a 1 0 65521", "a 1 99999 0", "a 1 0 99999", // out of bounds
		"a 100000 0 0", "a 1 100000 0", "a 1 0 100000", "a 1 655200 0", "a 1 0 655360", "a 1 4294967296 0", "a 1 0 4294967297", // too many digits
		"a 18446744073709551617 0 0", "a 1 18446744073709551616 0", "a 1 0 " + strings.Repeat("9", 1000), "a 1 0 " + strings.Repeat("0", 100000),
		"a 1. 0 0", "a 1.0 0 0", "a 1e1 0 0", "a 0x1 0 0", "a 1 0b1 0", "a 1 1_0 0", "a 1 0 a", "a one 0 0", "a 1 0 /", "a 1 0 :",
		"a \xd9\xa1 0 0", "a 1 \xef\xbc\x91 0", "a 1 0 \xc2\xb2", // digits, but not decimal ones of ASCII
		"Ab 2 258 7", "A 1 0 0", "abcdefghijkL 1 0 0", // not folded
		"abcdefghijklm 1 0 0", strings.Repeat("a", 300) + " 1 0 0", "\xff 1 0 0", "\xc3 1 0 0", "\x7f 1 0 0", "a\xc2\xa0 1 0 0", // no label
		strings.Repeat(" ", 100000), strings.Repeat("a", 100000), strings.Repeat("a ", 100000), "a 1 0 0" + strings.Repeat(" 0", 1000),
		"a,1,0,0", "1 a 0 0", "1 0 0 a", "a 1 0 0\r", "\xef\xbb\xbfa 1 0 0 ",
	}
	for _, text := range wrong {
		if got := impl.ParseRecord(text); got != noText {
			t.Errorf("ParseRecord(%q) = %#v", text, got)
		}
	}
	right := map[string]impl.Record{
		"a 1 0 0":                      {Label: "a", Version: 1},
		"1 1 0 10":                     {Label: "1", Version: 1, Pin: 10},
		"0 999 65520 65520":            {Label: "0", Version: 999, Owner: 65520, Pin: 65520},
		"00 10 100 1000":               {Label: "00", Version: 10, Owner: 100, Pin: 1000},
		"+1 1 1 1":                     {Label: "+1", Version: 1, Owner: 1, Pin: 1},
		"abcdefghijkl 100 10000 60000": {Label: "abcdefghijkl", Version: 100, Owner: 10000, Pin: 60000},
		"\xc3\x89 5 6 7":               {Label: "\xc3\x89", Version: 5, Owner: 6, Pin: 7},
	}
	for text, r := range right {
		if got := impl.ParseRecord(text); got != (impl.RecordResult{Record: r}) {
			t.Errorf("ParseRecord(%q) = %#v", text, got)
		}
	}
}

// Every byte of some texts in the place of every byte, left out, or more than there are.
func TestParseRecordAround(t *testing.T) {
	for _, r := range someRecords {
		text := textBy(r)
		for at := range len(text) + 1 {
			seeText(t, text[:at])
			seeText(t, text[at:])
			for b := range 256 {
				one := string([]byte{byte(b)})
				seeText(t, text[:at]+one+text[at:])
				if at < len(text) {
					seeText(t, text[:at]+one+text[at+1:])
				}
			}
			if at < len(text) {
				seeText(t, text[:at]+text[at+1:])
			}
		}
	}
}

// All texts of some words, so that each number stands beside each other one.
func TestParseRecordWords(t *testing.T) {
	words := []string{"", "0", "1", "9", "00", "01", "10", "-1", "+1", "999", "0999", "1000", "65520", "65521", "065520", "99999", "100000", "a", "1a", "a1", "\xff", "1\n"}
	for _, label := range []string{"", "a", "A", "0", "a\n", "abcdefghijkl", "abcdefghijklm"} {
		for _, version := range words {
			for _, owner := range words {
				for _, pin := range words {
					seeText(t, label+" "+version+" "+owner+" "+pin)
				}
			}
		}
	}
}

// P1: what is handed in is as it was, with the room behind it.
func TestP1RecordArgumentsStay(t *testing.T) {
	for _, r := range someRecords {
		data := packedBy(r)
		room := slices.Concat(data, []byte{77, 78, 79})
		was := slices.Clone(room)
		for n := range len(room) + 1 {
			impl.ReadRecord(room[:n])
			impl.ReadRecord(room[n:])
		}
		if !bytes.Equal(room, was) {
			t.Errorf("ReadRecord changed its argument: %v", room)
		}
		// The room behind the end is not looked at.
		if got := impl.ReadRecord(room[:len(data)]); got != (impl.RecordResult{Record: r}) {
			t.Errorf("ReadRecord with room behind = %#v", got)
		}
	}
}

// P1: what comes back shares no memory with what was handed in, nor with another answer.
func TestP1RecordAnswersAreNew(t *testing.T) {
	for _, r := range someRecords {
		data := packedBy(r)
		read := impl.ReadRecord(data)
		for at := range data {
			data[at] = 'X'
		}
		if read != (impl.RecordResult{Record: r}) {
			t.Errorf("ReadRecord shares with its argument: %#v", read)
		}
		text := textBy(r)
		parsed := impl.ParseRecord(text)
		if parsed.Code != impl.OK || unsafe.StringData(parsed.Record.Label) == unsafe.StringData(text) {
			t.Errorf("ParseRecord(%q) shares with its argument", text)
		}
		if told := impl.RecordText(r); unsafe.StringData(told.Text) == unsafe.StringData(r.Label) {
			t.Errorf("RecordText(%#v) shares with its argument", r)
		}
		one, two := impl.PackRecord(r), impl.PackRecord(r)
		for at := range one.Bytes {
			one.Bytes[at] = 'Y'
		}
		_ = append(one.Bytes[:1], 8, 8)
		if !sameBytes(two, packedBy(r)) || !sameBytes(impl.PackRecord(r), packedBy(r)) {
			t.Errorf("two answers of PackRecord share: %#v", two)
		}
	}
}

func TestP1RecordsHangOnArguments(t *testing.T) {
	var records []impl.Record
	for _, label := range slices.Concat(goodLabels, notFolded, noLabels) {
		for _, n := range []int64{math.MinInt64, -1, 0, 1, 999, 1000, 65520, 65521} {
			records = append(records, impl.Record{Label: label, Version: n, Owner: 5, Pin: 6}, impl.Record{Label: label, Version: 1, Owner: n, Pin: 5}, impl.Record{Label: label, Version: 1, Owner: 5, Pin: n})
		}
	}
	type answers struct {
		fault        int64
		piece        string
		sum          impl.IntResult
		text         impl.TextResult
		read, parsed impl.RecordResult
	}
	ask := func(r impl.Record) answers {
		return answers{impl.RecordFault(r), string(impl.PackRecord(r).Bytes), impl.RecordSum(r), impl.RecordText(r), impl.ReadRecord(packedBy(r)), impl.ParseRecord(textBy(r))}
	}
	var first []answers
	for _, r := range records {
		first = append(first, ask(r))
	}
	// The other way round the second time, so that something kept would show.
	for at, r := range slices.Backward(records) {
		if is := ask(r); is != first[at] {
			t.Fatalf("%#v: %#v, then %#v", r, first[at], is)
		}
	}
}
