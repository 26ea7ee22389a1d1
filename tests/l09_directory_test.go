package tests

import (
	"fmt"
	"math"
	"slices"
	"strings"
	"testing"
	"unsafe"

	"loop.example/g00602/impl"
)

// keyBy, ownerBy, directoryCode, atKey, updateCode, updateBy, slotsBy, answerBy and lookBy say over
// again, in the document's words, what chapter 9 asks; a record is looked for from the first one to
// the last one, and where it has to stand from the first key to the last one.
func keyBy(label string) int64 {
	return sumBack([]byte(foldedBy(label))) % 256
}

func ownerBy(secret int64) int64 {
	return sumBack(tagged(6, []int64{secret}))
}

func directoryCode(d impl.Directory) int64 {
	if len(d.Records) >= 13 {
		return impl.ErrMany
	}
	for at, r := range d.Records {
		if code := recordCode(r); code != impl.OK {
			return code
		}
		if at > 0 && keyBy(r.Label) <= keyBy(d.Records[at-1].Label) {
			return impl.ErrForm
		}
	}
	return impl.OK
}

func atKey(d impl.Directory, key int64) (impl.Record, bool) {
	for _, r := range d.Records {
		if keyBy(r.Label) == key {
			return r, true
		}
	}
	return impl.Record{}, false
}

func updateCode(d impl.Directory, r impl.Record, secret int64) int64 {
	if code := directoryCode(d); code != impl.OK {
		return code
	}
	if code := recordCode(r); code != impl.OK {
		return code
	}
	if secret <= -1 || secret >= 1000 {
		return impl.ErrRange
	}
	was, there := atKey(d, keyBy(r.Label))
	switch {
	case there && was.Label != r.Label:
		return impl.ErrTaken
	case there && ownerBy(secret) != was.Owner:
		return impl.ErrOwner
	case there && r.Version-was.Version != 1:
		return impl.ErrVersion
	case there:
		return impl.OK
	case r.Version != 1:
		return impl.ErrVersion
	case ownerBy(secret) != r.Owner:
		return impl.ErrOwner
	case len(d.Records) == 12:
		return impl.ErrFull
	}
	return impl.OK
}

func updateBy(d impl.Directory, r impl.Record, secret int64) impl.DirectoryResult {
	if code := updateCode(d, r, secret); code != impl.OK {
		return impl.DirectoryResult{Code: code}
	}
	var out impl.Directory
	for key := range int64(256) {
		if was, there := atKey(d, key); key == keyBy(r.Label) {
			out.Records = append(out.Records, r)
		} else if there {
			out.Records = append(out.Records, was)
		}
	}
	return impl.DirectoryResult{Directory: out}
}

func slotsBy(d impl.Directory) []impl.Slot {
	var slots []impl.Slot
	for _, r := range d.Records {
		slots = append(slots, impl.Slot{Key: keyBy(r.Label), Value: sumBack(packedBy(r))})
	}
	return slots
}

func answerBy(d impl.Directory, label string) impl.AnswerResult {
	if code := directoryCode(d); code != impl.OK {
		return impl.AnswerResult{Code: code}
	}
	if code := labelCode(label); code != impl.OK {
		return impl.AnswerResult{Code: code}
	}
	out := impl.AnswerResult{Answer: impl.Answer{Key: keyBy(label)}}
	for _, r := range d.Records {
		if r.Label == foldedBy(label) {
			out.Answer.There, out.Answer.Record = true, r
		}
	}
	return out
}

func lookBy(d impl.Directory, label string) impl.RecordResult {
	told := answerBy(d, label)
	if told.Code == impl.OK && !told.Answer.There {
		return impl.RecordResult{Code: impl.ErrNone}
	}
	return impl.RecordResult{Code: told.Code, Record: told.Answer.Record}
}

func sameDirectory(got impl.DirectoryResult, want impl.Directory) bool {
	return got.Code == impl.OK && slices.Equal(got.Directory.Records, want.Records)
}

func noDirectory(got impl.DirectoryResult, code int64) bool {
	return got.Code == code && len(got.Directory.Records) == 0
}

// seeLabel: what is told of a label, there or not, or with a fault.
func seeLabel(t *testing.T, d impl.Directory, label string) {
	t.Helper()
	if got, want := impl.AnswerOf(d, label), answerBy(d, label); got != want {
		t.Fatalf("AnswerOf(%v, %q) = %#v, not %#v", d, label, got, want)
	}
	if got, want := impl.LookRecord(d, label), lookBy(d, label); got != want {
		t.Fatalf("LookRecord(%v, %q) = %#v, not %#v", d, label, got, want)
	}
}

// seeDirectory: its fault, its slots, and what is told of each of its labels, folded or not.
func seeDirectory(t *testing.T, d impl.Directory) {
	t.Helper()
	code := directoryCode(d)
	if got := impl.DirectoryFault(d); got != code {
		t.Fatalf("DirectoryFault(%v) = %d, not %d", d, got, code)
	}
	slots := impl.SlotsOf(d)
	if code != impl.OK && !noSlots(slots, code) || code == impl.OK && !sameSlots(slots, slotsBy(d)) {
		t.Fatalf("SlotsOf(%v) = %#v, not %d, %v", d, slots, code, slotsBy(d))
	}
	if impl.SlotsFault(slots.Slots) != impl.OK {
		t.Fatalf("SlotsOf(%v) = %v does not rise", d, slots)
	}
	for _, r := range d.Records {
		seeLabel(t, d, r.Label)
		seeLabel(t, d, strings.Map(raised, r.Label))
	}
	if code != impl.OK {
		for _, label := range []string{"", "bob", "A b"} {
			if got := impl.AnswerOf(d, label); got != (impl.AnswerResult{Code: code}) {
				t.Fatalf("AnswerOf(%v, %q) = %#v, not code %d", d, label, got, code)
			}
			if got := impl.LookRecord(d, label); got != (impl.RecordResult{Code: code}) {
				t.Fatalf("LookRecord(%v, %q) = %#v, not code %d", d, label, got, code)
			}
		}
	}
}

// seeUpdate: what is answered is what the words ask; and P10, where it is taken.
func seeUpdate(t *testing.T, d impl.Directory, r impl.Record, secret int64) impl.DirectoryResult {
	t.Helper()
	got, want := impl.UpdateRecord(d, r, secret), updateBy(d, r, secret)
	if want.Code != impl.OK {
		if !noDirectory(got, want.Code) {
			t.Fatalf("UpdateRecord(%v, %v, %d) = %#v, not code %d", d, r, secret, got, want.Code)
		}
		return got
	}
	if !sameDirectory(got, want.Directory) {
		t.Fatalf("UpdateRecord(%v, %v, %d) = %#v, not %#v", d, r, secret, got, want)
	}
	seeTakenIn(t, d, r, secret, got.Directory)
	return got
}

// seeTakenIn: P10, by what the program itself tells.
func seeTakenIn(t *testing.T, d impl.Directory, r impl.Record, secret int64, now impl.Directory) {
	t.Helper()
	if impl.DirectoryFault(now) != impl.OK {
		t.Fatalf("%v, behind %v, has the fault %d", now, r, impl.DirectoryFault(now))
	}
	if impl.LookRecord(now, r.Label) != (impl.RecordResult{Record: r}) || impl.AnswerOf(now, r.Label) != (impl.AnswerResult{Answer: impl.Answer{Key: impl.KeyOf(r.Label).Value, There: true, Record: r}}) {
		t.Fatalf("%v is not told by %v", r, now)
	}
	was := impl.LookRecord(d, r.Label)
	if r.Version != was.Record.Version+1 {
		t.Fatalf("%v came behind %v", r, was)
	}
	more := 1
	if was.Code == impl.OK {
		more = 0
	}
	if len(now.Records) != len(d.Records)+more {
		t.Fatalf("%d records, behind %v, of %d", len(now.Records), r, len(d.Records))
	}
	for _, other := range d.Records {
		if other.Label != r.Label && impl.LookRecord(now, other.Label) != (impl.RecordResult{Record: other}) {
			t.Fatalf("%v turned %v: %v", r, other, now)
		}
	}
	put := impl.PutSlot(impl.SlotsOf(d).Slots, impl.Slot{Key: impl.KeyOf(r.Label).Value, Value: impl.RecordSum(r).Value})
	if !sameSlots(impl.SlotsOf(now), put.Slots) {
		t.Fatalf("SlotsOf(%v) = %v, not %v", now, impl.SlotsOf(now), put)
	}
	if impl.SameDirectories(d, now) {
		t.Fatalf("%v turned nothing: %v", r, now)
	}
	if again := impl.UpdateRecord(now, r, secret); again.Code == impl.OK || len(again.Directory.Records) != 0 {
		t.Fatalf("UpdateRecord(%v, %v, %d) is taken once more: %#v", now, r, secret, again)
	}
}

// keyLabels: by each key four labels of it, all of their own folding.
var keyLabels = func() [256][]string {
	var labels [256][]string
	for n := range 26 * 26 * 26 {
		label := string([]byte{byte('a' + n/676), byte('a' + n/26%26), byte('a' + n%26)})
		if key := keyBy(label); len(labels[key]) < 4 {
			labels[key] = append(labels[key], label)
		}
	}
	return labels
}()

// by: a record of a key, of the first label of it.
func by(key int64, version int64, secret int64) impl.Record {
	return impl.Record{Label: keyLabels[key][0], Version: version, Owner: ownerBy(secret), Pin: (key*251 + version) % 65521}
}

// secretOf: whose record of a key it is.
func secretOf(key int64) int64 {
	return key * 3
}

// directoryAt: a record of each of these keys, in that order, some of them of later versions.
func directoryAt(keys ...int64) impl.Directory {
	var d impl.Directory
	for at, key := range keys {
		d.Records = append(d.Records, by(key, int64(at*at+1), secretOf(key)))
	}
	return d
}

func spread(n int64, first int64, step int64) impl.Directory {
	var keys []int64
	for at := range n {
		keys = append(keys, first+at*step)
	}
	return directoryAt(keys...)
}

// someDirectories: none, one, two, three and on to MaxSlots, at both ends, side by side and far from each other.
func someDirectories() []impl.Directory {
	out := []impl.Directory{{}, {Records: []impl.Record{}}, directoryAt(0), directoryAt(255), directoryAt(3), directoryAt(0, 255), directoryAt(127, 128), directoryAt(3, 77, 252)}
	for n := range int64(13) {
		out = append(out, spread(n, 0, 1), spread(n, 256-n, 1), spread(n, 3, 22), spread(n, 10, 16))
	}
	out = append(out, impl.Directory{Records: []impl.Record{{Label: "bob", Version: 999, Owner: 65520, Pin: 65520}}},
		impl.Directory{Records: []impl.Record{{Label: "\xc3\xa9", Version: 5, Owner: ownerBy(4)}}})
	return out
}

func with(d impl.Directory, at int, r impl.Record) impl.Directory {
	records := slices.Clone(d.Records)
	records[at] = r
	return impl.Directory{Records: records}
}

func TestOwnerOf(t *testing.T) {
	for secret, owner := range map[int64]int64{0: 60220, 1: 60221, 7: 60227, 139: 60359, 256: 60359, 500: 60603, 999: 60868} {
		if got := impl.OwnerOf(secret); got != (impl.IntResult{Value: owner}) {
			t.Errorf("OwnerOf(%d) = %#v, not %d", secret, got, owner)
		}
	}
	for secret := range int64(1000) {
		if got := impl.OwnerOf(secret); got != (impl.IntResult{Value: ownerBy(secret)}) || got != impl.TagSum(6, []int64{secret}) {
			t.Fatalf("OwnerOf(%d) = %#v", secret, got)
		}
	}
	for _, secret := range []int64{math.MinInt64, -4294967296, -65536, -1000, -256, -2, -1, 1000, 1001, 1024, 65520, 65521, 65536, 65543, 4294967296, 4294967303, math.MaxInt64} {
		if got := impl.OwnerOf(secret); got != (impl.IntResult{Code: impl.ErrRange}) {
			t.Errorf("OwnerOf(%d) = %#v", secret, got)
		}
	}
}

// The keys: bob 3, ak 3, eve 77, ann 252.
func TestDirectoryExamples(t *testing.T) {
	bob := impl.Record{Label: "bob", Version: 1, Owner: 60227, Pin: 5}
	eve := impl.Record{Label: "eve", Version: 1, Owner: 60221, Pin: 0}
	ann := impl.Record{Label: "ann", Version: 1, Owner: 60220, Pin: 65520}
	one := impl.UpdateRecord(impl.Directory{}, ann, 0)
	two := impl.UpdateRecord(one.Directory, bob, 7)
	three := impl.UpdateRecord(two.Directory, eve, 1)
	if !sameDirectory(one, impl.Directory{Records: []impl.Record{ann}}) || !sameDirectory(two, impl.Directory{Records: []impl.Record{bob, ann}}) || !sameDirectory(three, impl.Directory{Records: []impl.Record{bob, eve, ann}}) {
		t.Fatal(one, two, three)
	}
	d := three.Directory
	next := impl.Record{Label: "bob", Version: 2, Owner: 60227, Pin: 6}
	later := impl.UpdateRecord(d, next, 7)
	if !sameDirectory(later, impl.Directory{Records: []impl.Record{next, eve, ann}}) {
		t.Fatal(later)
	}
	if got := impl.SlotsOf(two.Directory); !sameSlots(got, []impl.Slot{{Key: 3, Value: 55624}, {Key: 252, Value: 29205}}) {
		t.Errorf("SlotsOf = %#v", got)
	}
	if got := impl.SlotsOf(later.Directory); len(got.Slots) != 3 || got.Slots[0] != (impl.Slot{Key: 3, Value: 18008}) {
		t.Errorf("SlotsOf = %#v", got)
	}
	if got := impl.AnswerOf(d, "BoB"); got != (impl.AnswerResult{Answer: impl.Answer{Key: 3, There: true, Record: bob}}) {
		t.Errorf("AnswerOf of BoB = %#v", got)
	}
	if got := impl.AnswerOf(d, "Ak"); got != (impl.AnswerResult{Answer: impl.Answer{Key: 3}}) {
		t.Errorf("AnswerOf of Ak = %#v", got)
	}
	if got := impl.AnswerOf(d, "ab"); got != (impl.AnswerResult{Answer: impl.Answer{Key: 250}}) {
		t.Errorf("AnswerOf of ab = %#v", got)
	}
	if impl.LookRecord(d, "EVE") != (impl.RecordResult{Record: eve}) || impl.LookRecord(d, "ak") != (impl.RecordResult{Code: impl.ErrNone}) || impl.LookRecord(d, "ab") != (impl.RecordResult{Code: impl.ErrNone}) {
		t.Error("LookRecord")
	}
	for _, now := range []impl.Directory{{}, one.Directory, two.Directory, d, later.Directory} {
		seeDirectory(t, now)
	}
}

func TestDirectoryFaultCodes(t *testing.T) {
	full, many := spread(12, 3, 20), spread(13, 3, 19)
	good := by(200, 1, 5)
	upper := good
	upper.Label = strings.ToUpper(upper.Label)
	version, owner, pin := good, good, good
	version.Version, owner.Owner, pin.Pin = 0, 65521, -1
	long := impl.Record{Label: "abcdefghijklm", Version: 1}
	blank := impl.Record{Label: "a b", Version: 1}
	other := impl.Record{Label: keyLabels[200][1], Version: 1}
	faults := map[string]struct {
		records []impl.Record
		code    int64
	}{
		"none":                          {nil, impl.OK},
		"one":                           {[]impl.Record{good}, impl.OK},
		"twelve":                        {full.Records, impl.OK},
		"thirteen":                      {many.Records, impl.ErrMany},
		"fourteen":                      {spread(14, 0, 1).Records, impl.ErrMany},
		"a thousand of nothing":         {make([]impl.Record, 1000), impl.ErrMany},
		"nothing":                       {make([]impl.Record, 1), impl.ErrForm},
		"a label of no byte":            {[]impl.Record{{Version: 1}}, impl.ErrForm},
		"a label of thirteen bytes":     {[]impl.Record{long}, impl.ErrMany},
		"a blank":                       {[]impl.Record{blank}, impl.ErrText},
		"a byte that is no UTF-8":       {[]impl.Record{{Label: "a\xff", Version: 1}}, impl.ErrText},
		"not folded":                    {[]impl.Record{upper}, impl.ErrForm},
		"the version 0":                 {[]impl.Record{version}, impl.ErrRange},
		"an owner above MaxSum":         {[]impl.Record{owner}, impl.ErrRange},
		"a pin below 0":                 {[]impl.Record{pin}, impl.ErrRange},
		"the last one of twelve":        {with(full, 11, blank).Records, impl.ErrText},
		"falling":                       {directoryAt(5, 4).Records, impl.ErrForm},
		"falling from the last key":     {directoryAt(255, 0).Records, impl.ErrForm},
		"one record twice":              {[]impl.Record{good, good}, impl.ErrForm},
		"one label, two versions":       {[]impl.Record{by(7, 1, 0), by(7, 2, 0)}, impl.ErrForm},
		"two labels of one key":         {[]impl.Record{good, other}, impl.ErrForm},
		"two labels of one key, turned": {[]impl.Record{other, good}, impl.ErrForm},
		"two labels of key 0":           {[]impl.Record{by(0, 1, 0), {Label: keyLabels[0][1], Version: 1}}, impl.ErrForm},
		"the last ones of twelve fall":  {with(full, 11, by(202, 1, 0)).Records, impl.ErrForm},
		"the last ones of twelve alike": {with(full, 11, full.Records[10]).Records, impl.ErrForm},
		"below the one ahead, not below the first": {directoryAt(1, 9, 4).Records, impl.ErrForm},
		"one falls, the next ones rise":            {directoryAt(7, 3, 8).Records, impl.ErrForm},
		// The labels rise, or do not, where their keys do not, or do.
		"labels fall, keys rise": {[]impl.Record{{Label: "eve", Version: 1}, {Label: "ann", Version: 1}}, impl.OK},
		"labels rise, keys fall": {[]impl.Record{{Label: "ann", Version: 1}, {Label: "bob", Version: 1}}, impl.ErrForm},
		// Several at once: how many there are, then record by record its fault, then whether it rises.
		"thirteen, one with a fault":             {with(many, 0, blank).Records, impl.ErrMany},
		"thirteen alike":                         {slices.Repeat([]impl.Record{good}, 13), impl.ErrMany},
		"falls, then a fault":                    {[]impl.Record{by(5, 1, 0), by(4, 1, 0), blank}, impl.ErrForm},
		"a fault, then falls":                    {[]impl.Record{blank, by(5, 1, 0), by(4, 1, 0)}, impl.ErrText},
		"a fault of what falls":                  {[]impl.Record{by(201, 1, 0), version}, impl.ErrRange},
		"a fault of what has one key":            {[]impl.Record{good, pin}, impl.ErrRange},
		"two faults, the first one tells":        {[]impl.Record{version, blank}, impl.ErrRange},
		"two faults, the first one tells again":  {[]impl.Record{blank, version}, impl.ErrText},
		"two faults, of a label first":           {[]impl.Record{long, upper}, impl.ErrMany},
		"two faults, of the folding first":       {[]impl.Record{upper, long}, impl.ErrForm},
		"a fault of the second, a fall behind":   {[]impl.Record{by(9, 1, 0), owner, by(4, 1, 0)}, impl.ErrRange},
		"alike, and a fault behind":              {[]impl.Record{good, good, version}, impl.ErrForm},
		"what does not rise is no measure":       {[]impl.Record{by(9, 1, 0), by(2, 1, 0), pin}, impl.ErrForm},
		"falls below one that is not folded too": {[]impl.Record{by(201, 1, 0), upper}, impl.ErrForm},
	}
	for name, x := range faults {
		d := impl.Directory{Records: x.records}
		if directoryCode(d) != x.code {
			t.Fatalf("%s: the words said over again tell %d, not %d", name, directoryCode(d), x.code)
		}
		if got := impl.DirectoryFault(d); got != x.code {
			t.Errorf("%s: DirectoryFault = %d, not %d", name, got, x.code)
		}
		seeDirectory(t, d)
		seeUpdate(t, d, by(250, 1, 1), 1)
		seeUpdate(t, d, impl.Record{}, -1)
	}
}

// Every three records of some, so that each fault stands beside each other one, in each order.
func TestDirectoryFaultEdges(t *testing.T) {
	records := []impl.Record{by(0, 1, 0), by(7, 999, 999), by(255, 2, 0), {Label: keyLabels[7][1], Version: 1}, {Label: keyLabels[0][2], Version: 3}, {}, {Label: "A b", Version: 1}, {Label: "Bob", Version: 1}, {Label: "bob", Version: 1000}, {Label: "bob", Version: 1, Owner: -1}, {Label: "bob", Version: 1, Pin: 65521}, {Label: "bob", Version: 1}}
	good := 0
	for _, a := range records {
		seeDirectory(t, impl.Directory{Records: []impl.Record{a}})
		for _, b := range records {
			seeDirectory(t, impl.Directory{Records: []impl.Record{a, b}})
			for _, c := range records {
				three := impl.Directory{Records: []impl.Record{a, b, c}}
				seeDirectory(t, three)
				if directoryCode(three) == impl.OK {
					good++
				}
			}
		}
	}
	if good == 0 {
		t.Error("no directory of three seen")
	}
}

// One record of up to MaxSlots and more that is not so, at each place.
func TestDirectoryFaultPlaces(t *testing.T) {
	for n := 1; n <= 14; n++ {
		for at := range n {
			for _, r := range []impl.Record{{}, {Label: "A", Version: 1}, {Label: "a\n", Version: 1}, {Label: "a"}, by(0, 1, 0), by(100, 1, 0), by(255, 1, 0)} {
				seeDirectory(t, with(spread(int64(n), 1, 17), at, r))
			}
			if at > 0 {
				d := spread(int64(n), 1, 17)
				seeDirectory(t, with(d, at, d.Records[at-1]))
				seeDirectory(t, with(d, at, impl.Record{Label: keyLabels[keyBy(d.Records[at-1].Label)][1], Version: 1}))
			}
		}
	}
}

// P10: a new record at each key of each directory: ahead of all, between two, behind all; there already; or one too many.
func TestP10EveryKey(t *testing.T) {
	var codes [12]int
	for _, d := range someDirectories() {
		seeDirectory(t, d)
		for key := range int64(256) {
			_, there := atKey(d, key)
			for _, secret := range []int64{secretOf(key), 5} {
				got := seeUpdate(t, d, by(key, 1, secret), secret)
				codes[got.Code]++
				if there == (got.Code == impl.OK || got.Code == impl.ErrFull) || !there && (len(d.Records) == 12) != (got.Code == impl.ErrFull) {
					t.Fatalf("UpdateRecord(%v, key %d) = %#v", d, key, got)
				}
			}
		}
	}
	for _, code := range []int64{impl.OK, impl.ErrTaken, impl.ErrVersion, impl.ErrOwner, impl.ErrFull} {
		if codes[code] == 0 {
			t.Errorf("code %d is not seen: %v", code, codes)
		}
	}
}

// P10: the next version of each record that is there, of full directories too; no other version, no other secret.
func TestP10NextVersion(t *testing.T) {
	taken := 0
	for _, d := range someDirectories()[:len(someDirectories())-2] {
		for _, r := range d.Records {
			secret := secretOf(keyBy(r.Label))
			for _, more := range []int64{-1000, -2, -1, 0, 1, 2, 3, 900} {
				next := impl.Record{Label: r.Label, Version: r.Version + more, Owner: r.Owner, Pin: 65520 - r.Pin}
				got := seeUpdate(t, d, next, secret)
				if got.Code == impl.OK {
					taken++
				}
				if (got.Code == impl.OK) != (more == 1) {
					t.Fatalf("UpdateRecord(%v, %v, %d) = %#v", d, next, secret, got)
				}
				if got := seeUpdate(t, d, next, secret+1); more == 1 && !noDirectory(got, impl.ErrOwner) {
					t.Fatalf("UpdateRecord(%v, %v, %d) = %#v", d, next, secret+1, got)
				}
			}
		}
	}
	if taken < 200 {
		t.Errorf("%d updates taken alone", taken)
	}
}

// P10: from the first version to the last one, and no further.
func TestP10AllVersions(t *testing.T) {
	d := directoryAt(2, 4)
	for version := int64(1); version <= 999; version++ {
		d = seeUpdate(t, d, by(3, version, 9), 9).Directory
		if len(d.Records) != 3 || d.Records[1].Version != version {
			t.Fatalf("behind version %d: %v", version, d)
		}
	}
	if got := impl.UpdateRecord(d, by(3, 1000, 9), 9); !noDirectory(got, impl.ErrRange) {
		t.Errorf("version 1000: %#v", got)
	}
}

// P10: another label of a key that is taken has no record, and gets none, whatever it says.
func TestP10OtherLabelOfOneKey(t *testing.T) {
	for _, d := range someDirectories() {
		for _, r := range d.Records {
			key := keyBy(r.Label)
			for _, label := range keyLabels[key] {
				if label == r.Label {
					continue
				}
				for _, version := range []int64{1, r.Version, min(r.Version+1, 999)} {
					for _, secret := range []int64{0, secretOf(key), 999} {
						other := impl.Record{Label: label, Version: version, Owner: ownerBy(secret), Pin: r.Pin}
						if got := seeUpdate(t, d, other, secret); !noDirectory(got, impl.ErrTaken) {
							t.Fatalf("UpdateRecord(%v, %v, %d) = %#v", d, other, secret, got)
						}
					}
				}
				for _, asked := range []string{label, strings.ToUpper(label)} {
					if got := impl.LookRecord(d, asked); got != (impl.RecordResult{Code: impl.ErrNone}) {
						t.Fatalf("LookRecord(%v, %q) = %#v", d, asked, got)
					}
					if got := impl.AnswerOf(d, asked); got != (impl.AnswerResult{Answer: impl.Answer{Key: key}}) {
						t.Fatalf("AnswerOf(%v, %q) = %#v", d, asked, got)
					}
				}
			}
		}
	}
}

// P10: an owner that turns: who had the record may hand it on, and may do nothing behind that.
func TestP10OwnersTurn(t *testing.T) {
	d := seeUpdate(t, directoryAt(2, 4), by(3, 1, 0), 0).Directory
	turns := []int64{999, 0, 1, 998, 7, 7, 256, 0}
	was := int64(0)
	for at, secret := range turns {
		next := by(3, int64(at)+2, secret)
		if secret != was {
			if got := seeUpdate(t, d, next, secret); !noDirectory(got, impl.ErrOwner) {
				t.Fatalf("%d took what is of %d: %#v", secret, was, got)
			}
		}
		d = seeUpdate(t, d, next, was).Directory
		if len(d.Records) != 3 || d.Records[1] != next {
			t.Fatalf("%d did not hand on to %d: %v", was, secret, d)
		}
		if secret != was {
			if got := seeUpdate(t, d, by(3, int64(at)+3, was), was); !noDirectory(got, impl.ErrOwner) {
				t.Fatalf("%d took what is of %d: %#v", was, secret, got)
			}
		}
		was = secret
	}
	// Handed on to a sum that no secret has: nobody may do anything any more.
	lost := by(3, 10, 0)
	lost.Owner = 65520
	d = seeUpdate(t, d, lost, 0).Directory
	for secret := range int64(1000) {
		if got := impl.UpdateRecord(d, by(3, 11, secret), secret); !noDirectory(got, impl.ErrOwner) {
			t.Fatalf("UpdateRecord(%v, %d) = %#v", d, secret, got)
		}
	}
	// An owner is a sum: two secrets of one sum are one owner.
	d = seeUpdate(t, impl.Directory{}, by(3, 1, 139), 256).Directory
	d = seeUpdate(t, d, by(3, 2, 5), 139).Directory
	if len(d.Records) != 1 || d.Records[0] != by(3, 2, 5) {
		t.Errorf("139 and 256: %v", d)
	}
}

func TestUpdateSecrets(t *testing.T) {
	for _, secret := range []int64{0, 1, 998, 999} {
		d := seeUpdate(t, impl.Directory{}, by(3, 1, secret), secret)
		if seeUpdate(t, d.Directory, by(3, 2, secret), secret).Code != impl.OK {
			t.Errorf("secret %d: %v", secret, d)
		}
	}
	d := directoryAt(3, 5)
	for _, secret := range []int64{math.MinInt64, -65536, -1000, -1, 1000, 1001, 65536, 65545, 4294967296, math.MaxInt64} {
		for _, r := range []impl.Record{by(3, 2, secretOf(3)), by(9, 1, 9), by(9, 5, 9), {Label: keyLabels[3][1], Version: 1}} {
			if got := seeUpdate(t, d, r, secret); !noDirectory(got, impl.ErrRange) {
				t.Errorf("UpdateRecord(%v, %v, %d) = %#v", d, r, secret, got)
			}
		}
		// The record ahead of the secret.
		if got := seeUpdate(t, d, impl.Record{Label: "A b", Version: 1}, secret); !noDirectory(got, impl.ErrText) {
			t.Errorf("UpdateRecord with %d = %#v", secret, got)
		}
	}
}

// P10: with MaxSlots records no other label has room; each one that is there may be put anew.
func TestUpdateFull(t *testing.T) {
	for _, full := range []impl.Directory{spread(12, 3, 22), spread(12, 0, 1), spread(12, 244, 1)} {
		short := impl.Directory{Records: full.Records[:11]}
		for key := range int64(256) {
			_, there := atKey(full, key)
			if there {
				continue
			}
			r := by(key, 1, 8)
			if got := impl.UpdateRecord(full, r, 8); !noDirectory(got, impl.ErrFull) {
				t.Fatalf("UpdateRecord of twelve = %#v", got)
			}
			// Ahead of no room: the version, then the owner.
			if got := impl.UpdateRecord(full, by(key, 2, 8), 9); !noDirectory(got, impl.ErrVersion) {
				t.Fatalf("UpdateRecord of twelve, version 2 = %#v", got)
			}
			if got := impl.UpdateRecord(full, r, 9); !noDirectory(got, impl.ErrOwner) {
				t.Fatalf("UpdateRecord of twelve, another owner = %#v", got)
			}
			if got := seeUpdate(t, short, r, 8); len(got.Directory.Records) != 12 {
				t.Fatalf("UpdateRecord of eleven = %#v", got)
			}
		}
		for _, was := range full.Records {
			secret := secretOf(keyBy(was.Label))
			next := impl.Record{Label: was.Label, Version: was.Version + 1, Owner: 5, Pin: 6}
			if got := seeUpdate(t, full, next, secret); len(got.Directory.Records) != 12 {
				t.Fatalf("UpdateRecord of twelve, one of them anew = %#v", got)
			}
		}
	}
}

// Each code of UpdateRecord beside each other one, where a record has the key and where none has.
func TestUpdateOrderOfCodes(t *testing.T) {
	full := spread(12, 3, 22)
	d := impl.Directory{Records: full.Records[:2]}
	there := d.Records[1]
	mine, key := secretOf(keyBy(there.Label)), keyBy(there.Label)
	other := keyLabels[key][1]
	cases := map[string]struct {
		d      impl.Directory
		r      impl.Record
		secret int64
		code   int64
	}{
		"a fault of d, and of all else":     {with(d, 0, impl.Record{Label: "A b"}), impl.Record{}, -1, impl.ErrText},
		"d falls, a fault of r":             {impl.Directory{Records: []impl.Record{there, d.Records[0]}}, impl.Record{Label: "abcdefghijklm"}, -1, impl.ErrForm},
		"too many, a fault of r":            {spread(13, 0, 1), impl.Record{Label: "a\n"}, -1, impl.ErrMany},
		"a fault of r, and of secret":       {d, impl.Record{Label: "Bob", Version: 5}, -1, impl.ErrForm},
		"a fault of r's label, of secret":   {d, impl.Record{Label: "abcdefghijklm"}, 1000, impl.ErrMany},
		"secret, another label":             {d, impl.Record{Label: other, Version: 7}, 1000, impl.ErrRange},
		"another label, owner and version":  {d, impl.Record{Label: other, Version: 7}, mine + 1, impl.ErrTaken},
		"another label, version":            {d, impl.Record{Label: other, Version: 7, Owner: ownerBy(mine)}, mine, impl.ErrTaken},
		"another label, of version 1":       {d, impl.Record{Label: other, Version: 1, Owner: ownerBy(mine)}, mine, impl.ErrTaken},
		"there: owner and version":          {d, impl.Record{Label: there.Label, Version: 7}, mine + 1, impl.ErrOwner},
		"there: owner":                      {d, impl.Record{Label: there.Label, Version: 3, Owner: ownerBy(mine + 1)}, mine + 1, impl.ErrOwner},
		"there: version":                    {d, impl.Record{Label: there.Label, Version: 2, Owner: ownerBy(mine)}, mine, impl.ErrVersion},
		"there: version 1":                  {d, impl.Record{Label: there.Label, Version: 1, Owner: ownerBy(mine)}, mine, impl.ErrVersion},
		"there":                             {d, impl.Record{Label: there.Label, Version: 3, Owner: 1, Pin: 2}, mine, impl.OK},
		"none: version and owner":           {d, by(9, 2, 1), 2, impl.ErrVersion},
		"none: version":                     {d, by(9, 2, 1), 1, impl.ErrVersion},
		"none: owner":                       {d, by(9, 1, 1), 2, impl.ErrOwner},
		"none: none":                        {d, by(9, 1, 1), 1, impl.OK},
		"full, none: version and owner":     {full, by(9, 2, 1), 2, impl.ErrVersion},
		"full, none: owner":                 {full, by(9, 1, 1), 2, impl.ErrOwner},
		"full, none":                        {full, by(9, 1, 1), 1, impl.ErrFull},
		"full, another label":               {full, impl.Record{Label: other, Version: 1, Owner: ownerBy(1)}, 1, impl.ErrTaken},
		"full, there: owner":                {full, impl.Record{Label: there.Label, Version: 3}, mine + 1, impl.ErrOwner},
		"full, there: version":              {full, impl.Record{Label: there.Label, Version: 4}, mine, impl.ErrVersion},
		"full, there":                       {full, impl.Record{Label: there.Label, Version: 3}, mine, impl.OK},
		"full, and a fault of secret":       {full, by(9, 1, 1), 1000, impl.ErrRange},
		"no records, version 1, its owner":  {impl.Directory{}, by(9, 1, 1), 1, impl.OK},
		"no records, version 2":             {impl.Directory{}, by(9, 2, 1), 1, impl.ErrVersion},
		"no records, another owner":         {impl.Directory{}, by(9, 1, 1), 0, impl.ErrOwner},
		"no records, owner above MaxSum":    {impl.Directory{}, impl.Record{Label: "bob", Version: 1, Owner: 65521}, 0, impl.ErrRange},
		"no records, a label not folded":    {impl.Directory{}, impl.Record{Label: "Bob", Version: 1, Owner: ownerBy(1)}, 1, impl.ErrForm},
		"there, a label that is not folded": {d, impl.Record{Label: strings.ToUpper(there.Label), Version: 3, Owner: ownerBy(mine)}, mine, impl.ErrForm},
	}
	for name, x := range cases {
		if got := impl.UpdateRecord(x.d, x.r, x.secret); got.Code != x.code {
			t.Errorf("%s: UpdateRecord = %#v, not code %d", name, got, x.code)
		}
		seeUpdate(t, x.d, x.r, x.secret)
	}
}

// Every record of some labels and numbers, with every secret of some, so that codes stand beside each other.
func TestUpdateEdges(t *testing.T) {
	directories := []impl.Directory{{}, directoryAt(3), directoryAt(3, 9, 200), spread(12, 3, 22), spread(13, 3, 19), directoryAt(9, 3), {Records: []impl.Record{{Label: "A b", Version: 1}}}}
	labels := []string{keyLabels[3][0], keyLabels[3][1], strings.ToUpper(keyLabels[3][0]), keyLabels[9][0], keyLabels[4][0], "", "abcdefghijklm", "a b", "abcdefghijkl", "\xc3\xa9"}
	codes := map[int64]int{}
	for _, d := range directories {
		for _, label := range labels {
			for _, version := range []int64{math.MinInt64, 0, 1, 2, 3, 5, 999, 1000, math.MaxInt64} {
				for _, owner := range []int64{-1, 0, ownerBy(9), ownerBy(27), 65520, 65521} {
					for _, secret := range []int64{-1, 0, 9, 27, 999, 1000} {
						for _, pin := range []int64{-1, 0, 65520, 65521} {
							codes[seeUpdate(t, d, impl.Record{Label: label, Version: version, Owner: owner, Pin: pin}, secret).Code]++
						}
					}
				}
			}
		}
	}
	for _, code := range []int64{impl.OK, impl.ErrForm, impl.ErrMany, impl.ErrRange, impl.ErrText, impl.ErrTaken, impl.ErrVersion, impl.ErrOwner} {
		if codes[code] < 10 {
			t.Errorf("code %d seen %d times alone: %v", code, codes[code], codes)
		}
	}
}

// P10 along a history: what is told is, label by label, what was taken last, or nothing.
func TestP10History(t *testing.T) {
	seed := int64(7)
	next := func(below int64) int64 {
		seed = (seed*48271 + 11) % 2147483647
		return seed / 8 % below
	}
	var codes [12]int
	for range 20 {
		var d impl.Directory
		last := map[string]impl.Record{}
		var labels []string
		for range 20 {
			labels = append(labels, keyLabels[next(256)/8*8][next(2)])
		}
		for range 120 {
			label := labels[next(20)]
			r := impl.Record{Label: label, Version: last[label].Version + 1, Owner: ownerBy(next(3)), Pin: next(65521)}
			if next(8) == 0 {
				r.Version = 1 + next(4)
			}
			got := seeUpdate(t, d, r, next(3))
			codes[got.Code]++
			if got.Code == impl.OK {
				d, last[label] = got.Directory, r
			}
			for _, label := range labels {
				was, there := last[label]
				if impl.AnswerOf(d, strings.ToUpper(label)).Answer != (impl.Answer{Key: keyBy(label), There: there, Record: was}) {
					t.Fatalf("AnswerOf(%v, %q) = %#v, not %v", d, label, impl.AnswerOf(d, label), was)
				}
				seeLabel(t, d, label)
			}
		}
		seeDirectory(t, d)
	}
	for _, code := range []int64{impl.OK, impl.ErrTaken, impl.ErrVersion, impl.ErrOwner, impl.ErrFull} {
		if codes[code] < 5 {
			t.Errorf("code %d seen %d times alone: %v", code, codes[code], codes)
		}
	}
}

// What is put one by one is the same directory, in whatever order.
func TestP10AnyOrder(t *testing.T) {
	for step := range int64(12) {
		var want impl.Directory
		for n := range int64(12) {
			want.Records = append(want.Records, by(n*20+step, 1, n))
		}
		for turn := range int64(12) {
			var up, down impl.Directory
			for n := range int64(12) {
				at := (n*5 + turn) % 12
				up = seeUpdate(t, up, want.Records[at], at).Directory
				down = seeUpdate(t, down, want.Records[11-at], 11-at).Directory
			}
			if !impl.SameDirectories(up, want) || !impl.SameDirectories(down, want) {
				t.Fatalf("%v, %v, not %v", up, down, want)
			}
		}
	}
}

// Labels of all kinds, there and not: folded or not, they are one; with a fault they have its code.
func TestLookLabels(t *testing.T) {
	var d impl.Directory
	for _, label := range goodLabels {
		if got := impl.UpdateRecord(d, impl.Record{Label: label, Version: 1, Owner: ownerBy(3), Pin: 9}, 3); got.Code == impl.OK {
			d = got.Directory
		}
	}
	if len(d.Records) != 12 {
		t.Fatalf("%d labels alone", len(d.Records))
	}
	directories := append(someDirectories(), d, directoryAt(9, 3), spread(13, 0, 1), impl.Directory{Records: []impl.Record{{Label: "a b"}}})
	for _, d := range directories {
		for _, label := range slices.Concat(goodLabels, notFolded, noLabels, noTexts) {
			seeLabel(t, d, label)
		}
	}
	for _, r := range d.Records {
		for _, label := range []string{r.Label, strings.Map(raised, r.Label)} {
			if impl.LookRecord(d, label) != (impl.RecordResult{Record: r}) || !impl.AnswerOf(d, label).Answer.There {
				t.Errorf("LookRecord(%v, %q) = %#v", d, label, impl.LookRecord(d, label))
			}
		}
	}
	// What is raised beyond A to Z is another label.
	small := impl.Directory{Records: []impl.Record{{Label: "\xc3\xa9", Version: 1}}}
	if impl.LookRecord(small, "\xc3\x89") != (impl.RecordResult{Code: impl.ErrNone}) || impl.AnswerOf(small, "\xc3\x89").Answer.There {
		t.Error("a label that is not folded so is found")
	}
}

// The fault of the directory comes ahead of that of the label, and that ahead of there being none.
func TestLookOrderOfCodes(t *testing.T) {
	bad := impl.Directory{Records: []impl.Record{{Label: "bob"}}}
	for label, code := range map[string]int64{"": impl.ErrForm, "abcdefghijklm": impl.ErrMany, "a b": impl.ErrText, "\xff": impl.ErrText} {
		for _, d := range []impl.Directory{{}, directoryAt(3), spread(12, 0, 1)} {
			if impl.LookRecord(d, label) != (impl.RecordResult{Code: code}) || impl.AnswerOf(d, label) != (impl.AnswerResult{Code: code}) {
				t.Errorf("%q: %#v, %#v", label, impl.LookRecord(d, label), impl.AnswerOf(d, label))
			}
		}
		if impl.LookRecord(bad, label) != (impl.RecordResult{Code: impl.ErrRange}) || impl.AnswerOf(bad, label) != (impl.AnswerResult{Code: impl.ErrRange}) {
			t.Errorf("%q of a directory with a fault: %#v, %#v", label, impl.LookRecord(bad, label), impl.AnswerOf(bad, label))
		}
	}
	if impl.LookRecord(impl.Directory{}, "bob") != (impl.RecordResult{Code: impl.ErrNone}) || impl.AnswerOf(impl.Directory{}, "bob") != (impl.AnswerResult{Answer: impl.Answer{Key: 3}}) {
		t.Error("bob, of no records")
	}
}

func TestSameDirectories(t *testing.T) {
	all := append(someDirectories(), spread(13, 0, 1), directoryAt(9, 3), impl.Directory{Records: make([]impl.Record, 3)}, impl.Directory{Records: []impl.Record{{Label: "A b", Version: -1, Owner: math.MaxInt64}}})
	for _, a := range all {
		copied := impl.Directory{Records: slices.Clone(a.Records)}
		if !impl.SameDirectories(a, a) || !impl.SameDirectories(a, copied) || !impl.SameDirectories(copied, a) {
			t.Errorf("%v is not the same as itself", a)
		}
		for _, b := range all {
			if got := impl.SameDirectories(a, b); got != slices.Equal(a.Records, b.Records) {
				t.Errorf("SameDirectories(%v, %v) = %v", a, b, got)
			}
		}
		for at, r := range a.Records {
			turned := []impl.Directory{{Records: a.Records[:at]}, {Records: slices.Delete(slices.Clone(a.Records), at, at+1)}, {Records: slices.Insert(slices.Clone(a.Records), at, impl.Record{})}}
			for _, turn := range []func(r *impl.Record){func(r *impl.Record) { r.Label += "x" }, func(r *impl.Record) { r.Label = strings.ToUpper(r.Label) + "!" }, func(r *impl.Record) { r.Version++ }, func(r *impl.Record) { r.Owner++ }, func(r *impl.Record) { r.Pin-- }} {
				other := r
				turn(&other)
				turned = append(turned, with(a, at, other))
			}
			for _, b := range turned {
				if impl.SameDirectories(a, b) || impl.SameDirectories(b, a) {
					t.Errorf("%v and %v are the same", a, b)
				}
			}
		}
	}
	if !impl.SameDirectories(impl.Directory{}, impl.Directory{Records: []impl.Record{}}) {
		t.Error("nil and an empty list are not the same")
	}
}

// askedOf: one call of each function of the chapter.
type askedOf struct {
	d      impl.Directory
	other  impl.Directory
	r      impl.Record
	secret int64
	label  string
}

func (x askedOf) ask() string {
	return fmt.Sprint(impl.DirectoryFault(x.d), impl.OwnerOf(x.secret), impl.LookRecord(x.d, x.label), impl.UpdateRecord(x.d, x.r, x.secret), impl.SlotsOf(x.d), impl.SameDirectories(x.d, x.other), impl.AnswerOf(x.d, x.label))
}

func someOfDirectories() []askedOf {
	var out []askedOf
	directories := append(someDirectories(), spread(13, 0, 1), directoryAt(9, 3), impl.Directory{Records: []impl.Record{by(3, 1, 0), {Label: "a b"}}}, impl.Directory{Records: make([]impl.Record, 2)})
	for at, d := range directories {
		other := directories[(at+1)%len(directories)]
		out = append(out, askedOf{d, d, by(9, 1, 1), 1, "bob"}, askedOf{d, other, by(255, 1, 0), 0, "A b"}, askedOf{d, other, by(0, 2, 0), 0, ""}, askedOf{d, other, impl.Record{Label: "Bob"}, -1, "BOB"})
		for _, r := range d.Records {
			next := r
			next.Version++
			out = append(out, askedOf{d, d, next, secretOf(keyBy(r.Label)), strings.ToUpper(r.Label)}, askedOf{d, other, r, 0, r.Label})
		}
	}
	return out
}

// P1: what is handed in is as it was, with the room around it; and that room is not looked at.
func TestP1DirectoryArgumentsStay(t *testing.T) {
	behind := []impl.Record{by(7, 1, 0), by(255, 1, 0), {Label: "A b", Version: -1}}
	for _, x := range someOfDirectories() {
		one, two := slices.Concat(behind, x.d.Records, behind), slices.Concat(behind, x.other.Records, behind)
		oneWas, twoWas := slices.Clone(one), slices.Clone(two)
		given := x
		given.d.Records, given.other.Records = one[3:3+len(x.d.Records)], two[3:3+len(x.other.Records)]
		if got, want := given.ask(), x.ask(); got != want {
			t.Fatalf("%v with room behind: %s, not %s", x, got, want)
		}
		given.other = given.d
		given.ask()
		if !slices.Equal(one, oneWas) || !slices.Equal(two, twoWas) {
			t.Fatalf("%v turned its arguments: %v, %v", x, one, two)
		}
	}
}

// P1: what comes back shares no memory with what was handed in, nor with another answer.
func TestP1DirectoryAnswersAreNew(t *testing.T) {
	spoil := func(records []impl.Record) {
		for at := range records[:cap(records)] {
			records[:cap(records)][at] = impl.Record{Label: "spoilt", Version: -5}
		}
	}
	taken, told := 0, 0
	for _, x := range someOfDirectories() {
		given := x
		given.d.Records = slices.Clone(x.d.Records)
		want := given.ask()
		first, second := impl.UpdateRecord(given.d, x.r, x.secret), impl.UpdateRecord(given.d, x.r, x.secret)
		slots, kept := impl.SlotsOf(given.d), impl.SlotsOf(given.d)
		if first.Code == impl.OK {
			taken++
		}
		spoil(first.Directory.Records)
		for at := range slots.Slots[:cap(slots.Slots)] {
			slots.Slots[:cap(slots.Slots)][at] = impl.Slot{Key: -5, Value: -5}
		}
		if !slices.Equal(given.d.Records, x.d.Records) || given.ask() != want {
			t.Fatalf("%v: an answer shares with what was handed in: %v", x, given.d)
		}
		if by := updateBy(x.d, x.r, x.secret); !slices.Equal(second.Directory.Records, by.Directory.Records) || kept.Code == impl.OK && !sameSlots(kept, slotsBy(x.d)) {
			t.Fatalf("%v: two answers share: %v, %v", x, second, kept)
		}
		if look := impl.LookRecord(given.d, x.label); look.Code == impl.OK {
			told++
		}
		// And the other way round: what is handed in may be turned behind the call.
		spoil(given.d.Records)
		if by := updateBy(x.d, x.r, x.secret); !slices.Equal(second.Directory.Records, by.Directory.Records) {
			t.Fatalf("%v: an answer turned with what was handed in: %v", x, second)
		}
	}
	if taken < 100 || told < 100 {
		t.Errorf("%d updates taken, %d records told alone", taken, told)
	}
}

// P1: a label is memory too.
func TestP1DirectoryLabelsAreNew(t *testing.T) {
	held := func(d impl.Directory, label string, more ...string) map[*byte]bool {
		all := map[*byte]bool{unsafe.StringData(label): true}
		for _, r := range d.Records {
			all[unsafe.StringData(r.Label)] = true
		}
		for _, text := range more {
			all[unsafe.StringData(text)] = true
		}
		return all
	}
	d := spread(11, 3, 22)
	for _, r := range d.Records {
		given := held(d, r.Label)
		if given[unsafe.StringData(impl.LookRecord(d, r.Label).Record.Label)] || given[unsafe.StringData(impl.AnswerOf(d, r.Label).Answer.Record.Label)] {
			t.Errorf("%v: a label that is told shares with an argument", r)
		}
		next := impl.Record{Label: r.Label, Version: r.Version + 1, Owner: 1, Pin: 2}
		fresh := by(100, 1, 5)
		given = held(d, r.Label, fresh.Label)
		for _, got := range []impl.DirectoryResult{impl.UpdateRecord(d, next, secretOf(keyBy(r.Label))), impl.UpdateRecord(d, fresh, 5)} {
			if got.Code != impl.OK {
				t.Fatal(got)
			}
			for _, now := range got.Directory.Records {
				if given[unsafe.StringData(now.Label)] {
					t.Errorf("%v: a label of the directory shares with an argument", now)
				}
			}
		}
	}
}

// P1: nil and an empty list are the same value.
func TestP1NoRecords(t *testing.T) {
	none := impl.Directory{Records: make([]impl.Record, 0, 5)}
	for _, label := range []string{"", "bob", "BOB", "A b"} {
		for _, r := range []impl.Record{{}, by(3, 1, 0), by(3, 2, 0)} {
			for _, secret := range []int64{-1, 0, 1} {
				got, want := askedOf{none, impl.Directory{}, r, secret, label}, askedOf{impl.Directory{}, none, r, secret, label}
				if got.ask() != want.ask() {
					t.Errorf("an empty list: %s, not %s", got.ask(), want.ask())
				}
			}
		}
	}
}

// seeAgain: what is answered is what was answered first, however often and in whichever order it is asked.
func seeAgain[T interface{ ask() string }](t *testing.T, all []T) {
	t.Helper()
	var first []string
	for _, x := range all {
		first = append(first, x.ask())
	}
	// The other way round the second time, so that something kept would show.
	for at, was := range slices.Backward(first) {
		for range 3 {
			if is := all[at].ask(); is != was {
				t.Fatalf("%+v: %s, then %s", all[at], was, is)
			}
		}
	}
}

func TestP1DirectoriesHangOnArguments(t *testing.T) {
	seeAgain(t, someOfDirectories())
}

// P1: an answer at every argument, however far from what may be.
func TestP1DirectoryEveryArgument(t *testing.T) {
	far := []int64{math.MinInt64, -1, 0, 1, 999, 1000, 65520, 65521, math.MaxInt64}
	labels := []string{"", "bob", "BOB", "\xff", strings.Repeat("a", 100000), "a\x00", keyLabels[3][0]}
	for _, label := range labels {
		for _, version := range far {
			for _, n := range far {
				r := impl.Record{Label: label, Version: version, Owner: n, Pin: n}
				for _, d := range []impl.Directory{{}, {Records: []impl.Record{r}}, {Records: []impl.Record{by(2, 1, 0), r}}, {Records: slices.Repeat([]impl.Record{r}, 2)}} {
					seeDirectory(t, d)
					seeUpdate(t, d, r, n)
					seeUpdate(t, d, by(3, 1, 0), version)
				}
			}
		}
	}
	seeDirectory(t, impl.Directory{Records: make([]impl.Record, 1000000)})
}
