package tests

import (
	"fmt"
	"math"
	"slices"
	"strings"
	"testing"
	"unsafe"

	"loop.example/g00602/impl"
)

// auditBy, sampleRightBy, knownState.sampleOf, watchBy, cutRightBy and bothBy say over again, in the
// document's words, what chapter 14 asks.
func auditBy(trusted []impl.Head, list []impl.Head) int64 {
	for _, chain := range [][]impl.Head{trusted, list} {
		if code := chainCode(chain); code != impl.OK {
			return code
		}
	}
	if len(list) < len(trusted) {
		return impl.ErrState
	}
	for at, h := range trusted {
		if list[at] != h {
			return impl.ErrProof
		}
	}
	return impl.OK
}

func sampleRightBy(h impl.Head, x impl.Sample) bool {
	byOld, byNew := seenBy(h, x.Label, x.Old), seenBy(h, x.Label, x.New)
	if byOld.Code != impl.OK || byNew.Code != impl.OK {
		return false
	}
	return x.Old.Said.Old && !x.New.Said.Old && byOld.Answer == byNew.Answer
}

func (x knownState) sampleOf(epoch int64, label string) impl.SampleResult {
	byOld := x.replyTo(epoch, label, true)
	if byOld.Code != impl.OK {
		return impl.SampleResult{Code: byOld.Code}
	}
	byNew := x.replyTo(epoch, label, false)
	if byNew.Code != impl.OK {
		return impl.SampleResult{Code: byNew.Code}
	}
	return impl.SampleResult{Sample: impl.Sample{Label: label, Old: byOld.Reply, New: byNew.Reply}}
}

func watchBy(list []impl.Head, label string, replies []impl.Reply) impl.IntResult {
	if code := chainCode(list); code != impl.OK {
		return impl.IntResult{Code: code}
	}
	if len(replies) != len(list) {
		return impl.IntResult{Code: impl.ErrMany}
	}
	var ahead impl.Answer
	for at, r := range replies {
		seen := seenBy(list[at], label, r)
		if seen.Code != impl.OK {
			return impl.IntResult{Code: seen.Code}
		}
		is := seen.Answer
		switch {
		case !is.There && ahead.There,
			is.There && ahead.There && is.Record.Version < ahead.Record.Version,
			is.There && ahead.There && is.Record.Version == ahead.Record.Version && is.Record != ahead.Record:
			return impl.IntResult{Code: impl.ErrVersion}
		}
		ahead = is
	}
	if !ahead.There {
		return impl.IntResult{}
	}
	return impl.IntResult{Value: ahead.Record.Version}
}

func cutRightBy(list []impl.Head, at int64) bool {
	if chainCode(list) != impl.OK || at <= -1 || at >= int64(len(list)) {
		return false
	}
	if list[at].Phase != impl.PhaseCutOver {
		return false
	}
	isCut := func(h impl.Head) bool { return h.Phase == impl.PhaseCutOver }
	isNot := func(h impl.Head) bool { return !isCut(h) }
	return !slices.ContainsFunc(list[:at], isCut) && !slices.ContainsFunc(list[at:], isNot)
}

func bothBy(h impl.Head, label string, a impl.Reply, b impl.Reply) impl.IntResult {
	var seen []impl.Answer
	for _, r := range []impl.Reply{a, b} {
		got := seenBy(h, label, r)
		if got.Code != impl.OK {
			return impl.IntResult{Code: got.Code}
		}
		seen = append(seen, got.Answer)
	}
	if seen[0] == seen[1] {
		return impl.IntResult{Value: 1}
	}
	return impl.IntResult{Value: 2}
}

func sameSample(a impl.Sample, b impl.Sample) bool {
	return a.Label == b.Label && sameReply(a.Old, b.Old) && sameReply(a.New, b.New)
}

func noSample(got impl.SampleResult, code int64) bool {
	return got.Code == code && sameSample(got.Sample, impl.Sample{})
}

func repliesCopy(replies []impl.Reply) []impl.Reply {
	var out []impl.Reply
	for _, r := range replies {
		out = append(out, replyCopy(r))
	}
	return out
}

// replied: a copy, of which the reply at that place is another one.
func replied(replies []impl.Reply, at int, turn func(r *impl.Reply)) []impl.Reply {
	out := repliesCopy(replies)
	turn(&out[at])
	return out
}

func seeAudit(t *testing.T, trusted []impl.Head, list []impl.Head) int64 {
	t.Helper()
	got, want := impl.AuditChain(trusted, list), auditBy(trusted, list)
	if got != want {
		t.Fatalf("AuditChain(%+v, %+v) = %d, not %d", trusted, list, got, want)
	}
	return got
}

func seeRight(t *testing.T, h impl.Head, x impl.Sample) bool {
	t.Helper()
	got, want := impl.SampleRight(h, x), sampleRightBy(h, x)
	if got != want {
		t.Fatalf("SampleRight(%+v, %+v) = %v, not %v", h, x, got, want)
	}
	return got
}

// seeSample: what is answered is what the words ask; and P15, where a sample is answered: both trees tell one answer.
func seeSample(t *testing.T, x knownState, epoch int64, label string) impl.SampleResult {
	t.Helper()
	got, want := impl.SampleOf(x.s, epoch, label), x.sampleOf(epoch, label)
	if got.Code != want.Code || !sameSample(got.Sample, want.Sample) {
		t.Fatalf("SampleOf(%+v, %d, %q) = %+v, not %+v", x.s, epoch, label, got, want)
	}
	if got.Code != impl.OK {
		return got
	}
	h := x.s.Heads[epoch-1]
	if impl.FormsOf(h).Value != 3 {
		t.Fatalf("SampleOf(%+v, %d, %q) = %+v by one root alone", x.s, epoch, label, got)
	}
	if !seeRight(t, h, got.Sample) {
		t.Fatalf("SampleOf(%+v, %d, %q) = %+v is not taken", x.s, epoch, label, got)
	}
	if both := seeBoth(t, h, label, got.Sample.Old, got.Sample.New); both != (impl.IntResult{Value: 1}) {
		t.Fatalf("%+v of %q tells two answers: %+v", got, label, both)
	}
	past := impl.PastAnswer(x.s, epoch, label)
	for _, r := range []impl.Reply{got.Sample.Old, got.Sample.New} {
		if seen := impl.SeeReply(h, label, r); seen != past {
			t.Fatalf("%+v of %q tells %+v, not %+v", r, label, seen, past)
		}
	}
	return got
}

func seeWatch(t *testing.T, list []impl.Head, label string, replies []impl.Reply) impl.IntResult {
	t.Helper()
	got, want := impl.WatchOwn(list, label, replies), watchBy(list, label, replies)
	if got != want {
		t.Fatalf("WatchOwn(%+v, %q, %+v) = %+v, not %+v", list, label, replies, got, want)
	}
	return got
}

// seeCut: each place of a list, and some that are none; and P15: at most one place is right. It tells that one, or -1.
func seeCut(t *testing.T, list []impl.Head) int64 {
	t.Helper()
	place, n := int64(-1), int64(len(list))
	for at := int64(-2); at <= n+2; at++ {
		got, want := impl.CutOverRight(list, at), cutRightBy(list, at)
		if got != want {
			t.Fatalf("CutOverRight(%+v, %d) = %v, not %v", list, at, got, want)
		}
		if got && place != -1 {
			t.Fatalf("CutOverRight(%+v) at %d and at %d", list, place, at)
		}
		if got {
			place = at
		}
	}
	return place
}

func seeBoth(t *testing.T, h impl.Head, label string, a impl.Reply, b impl.Reply) impl.IntResult {
	t.Helper()
	got, want := impl.BothSaid(h, label, a, b), bothBy(h, label, a, b)
	if got != want {
		t.Fatalf("BothSaid(%+v, %q, %+v, %+v) = %+v, not %+v", h, label, a, b, got, want)
	}
	return got
}

// watched: heads of these phases, each one of a directory, and the state that has them; whatever leads from one directory to the next.
func watched(phases []int64, past []impl.Directory) knownState {
	last := phases[len(phases)-1]
	s := impl.State{Phase: last, Cursor: cursorsIn[last][0], Past: past}
	prev := int64(0)
	for at, phase := range phases {
		h := headForBy(past[at], int64(at)+1, phase, prev).Head
		s.Heads = append(s.Heads, h)
		prev = sumBack(headPacked(h))
	}
	return known(s)
}

// toldOf: the replies of all epochs to a label; where a head has both roots, bit by bit of trees tells by which tree.
func (x knownState) toldOf(label string, trees int) []impl.Reply {
	var out []impl.Reply
	for at := range x.s.Heads {
		epoch := int64(at) + 1
		told := x.replyTo(epoch, label, trees>>at&1 == 1)
		if told.Code != impl.OK {
			told = x.replyTo(epoch, label, trees>>at&1 == 0)
		}
		out = append(out, told.Reply)
	}
	return out
}

// By hand: a label that is watched over a whole move.
func TestAuditExamples(t *testing.T) {
	bob, next := by(3, 1, 7), by(3, 2, 7)
	label, other := bob.Label, keyLabels[3][1]
	s := impl.CloseEpoch(impl.NewState().State).State
	s = impl.CloseEpoch(impl.UpdateState(s, bob, 7).State).State
	s = impl.CloseEpoch(impl.CopySome(impl.StartMove(s).State, 256).State).State
	s = impl.CloseEpoch(impl.UpdateState(s, next, 7).State).State
	s = impl.CloseEpoch(impl.CutOver(s).State).State
	for n := range 6 {
		for m := range 6 {
			want := int64(impl.OK)
			if m < n {
				want = impl.ErrState
			}
			if got := seeAudit(t, s.Heads[:n], s.Heads[:m]); got != want {
				t.Errorf("AuditChain of %d trusted, %d there = %d", n, m, got)
			}
		}
	}
	if got := seeCut(t, s.Heads); got != 4 {
		t.Errorf("the cut is at %d", got)
	}
	if got := seeCut(t, s.Heads[:4]); got != -1 {
		t.Errorf("the cut is at %d", got)
	}
	x := known(s)
	for epoch, code := range map[int64]int64{0: impl.ErrNone, 1: impl.ErrState, 2: impl.ErrState, 3: impl.OK, 4: impl.OK, 5: impl.ErrState, 6: impl.ErrNone} {
		if got := seeSample(t, x, epoch, label); got.Code != code {
			t.Errorf("SampleOf of epoch %d = %+v, not code %d", epoch, got, code)
		}
	}
	sample := seeSample(t, x, 4, strings.ToUpper(label)).Sample
	if sample.Label != strings.ToUpper(label) || sample.Old.Record != next || sample.New.Record != next || !sample.Old.Said.Old || sample.New.Said.Old {
		t.Errorf("SampleOf of epoch 4 = %+v", sample)
	}
	for trees := range 32 {
		if got := seeWatch(t, s.Heads, label, x.toldOf(label, trees)); got != (impl.IntResult{Value: 2}) {
			t.Errorf("WatchOwn of %q = %+v", label, got)
		}
		if got := seeWatch(t, s.Heads, other, x.toldOf(other, trees)); got != (impl.IntResult{}) {
			t.Errorf("WatchOwn of %q = %+v", other, got)
		}
		for n, version := range []int64{0, 0, 1, 1, 2, 2} {
			if got := seeWatch(t, s.Heads[:n], label, x.toldOf(label, trees)[:n]); got != (impl.IntResult{Value: version}) {
				t.Errorf("WatchOwn of %q, %d epochs = %+v", label, n, got)
			}
		}
	}
}

// Chains that go on from those that were trusted, and that are the same: each beginning held against each other one.
func TestP15ChainsGoOn(t *testing.T) {
	for _, list := range longChains() {
		for n := range 11 {
			for m := range 11 {
				want := int64(impl.OK)
				if m < n {
					want = impl.ErrState
				}
				if got := seeAudit(t, list[:n], slices.Clone(list[:m])); got != want {
					t.Errorf("AuditChain of the first %d and %d of %+v = %d", n, m, list, got)
				}
			}
		}
	}
	if impl.AuditChain(nil, nil) != impl.OK || impl.AuditChain([]impl.Head{}, nil) != impl.OK || impl.AuditChain(nil, []impl.Head{}) != impl.OK {
		t.Error("no heads, and none trusted")
	}
}

// twinsOf: other heads of the same sum, another root alone.
func twinsOf(h impl.Head) []impl.Head {
	var out []impl.Head
	for _, turn := range []func(h *impl.Head, n int64){func(h *impl.Head, n int64) { h.Old = n }, func(h *impl.Head, n int64) { h.New = n }} {
		turned := func(n int64) impl.Head {
			x := h
			turn(&x, n)
			return x
		}
		for _, n := range numbersTo(sumBack(headPacked(h)), func(n int64) int64 { return sumBack(headPacked(turned(n))) }) {
			if x := turned(n); x != h && headCode(x) == impl.OK {
				out = append(out, x)
			}
		}
	}
	return out
}

// otherHeads: what may stand in the place of a head: other roots, another phase, and what has the same sum.
func otherHeads(h impl.Head) []impl.Head {
	out := twinsOf(h)
	for _, phase := range allPhases {
		x := rooted(h.Epoch, phase, h.Prev)
		out = append(out, x, impl.Head{Epoch: h.Epoch, Phase: phase, Prev: h.Prev})
		if x.Old != 0 {
			x.Old++
			out = append(out, x)
		}
		if x.New != 0 {
			x.New--
			out = append(out, x)
		}
	}
	return slices.DeleteFunc(out, func(x impl.Head) bool { return x == h })
}

// A head that is turned, in a list that is a chain all the same: it is shown where it was trusted, and is free where it was not.
func TestAuditChainTurned(t *testing.T) {
	codes, twins := map[int64]int{}, 0
	for _, list := range longChains() {
		for at := range list {
			for _, h := range otherHeads(list[at]) {
				turned := boundAnew(turnedAt(list, at, func(x *impl.Head) { *x = h }), at)
				if chainCode(turned) != impl.OK {
					continue
				}
				if turned[9].Prev == list[9].Prev && at < 9 {
					twins++
				}
				for n := range 11 {
					want := int64(impl.ErrProof)
					if n <= at {
						want = impl.OK
					}
					for _, m := range []int{n, min(n+1, 10), 10} {
						for _, got := range []int64{seeAudit(t, list[:n], turned[:m]), seeAudit(t, turned[:n], list[:m])} {
							if got != want {
								t.Fatalf("AuditChain of the first %d of %+v, %d of %+v = %d, not %d", n, list, m, turned, got, want)
							}
							codes[got]++
						}
					}
					// Fewer than were trusted: that is asked ahead of whether they are the same.
					if n > 0 && (seeAudit(t, list[:n], turned[:n-1]) != impl.ErrState || seeAudit(t, turned, list[:n-1]) != impl.ErrState) {
						t.Fatalf("AuditChain of the first %d of %+v, one less of %+v", n, list, turned)
					}
				}
			}
		}
	}
	if codes[impl.OK] < 1000 || codes[impl.ErrProof] < 1000 || twins < 50 {
		t.Errorf("codes %v, and %d of the same sum alone", codes, twins)
	}
}

// brokenChains: lists of heads that are none, and their codes; the first four are short.
func brokenChains() map[string]struct {
	list []impl.Head
	code int64
} {
	list := chainOf(1, 2, 3, 4)
	return map[string]struct {
		list []impl.Head
		code int64
	}{
		"nothing for a head":               {[]impl.Head{{}}, impl.ErrRange},
		"a New root in PhaseIdle":          {[]impl.Head{{Epoch: 1, Phase: 1, New: 5}}, impl.ErrForm},
		"a first Prev":                     {[]impl.Head{rooted(1, 1, 5)}, impl.ErrProof},
		"away from the cut":                {chainOf(4, 1), impl.ErrState},
		"eleven heads":                     {append(chainOf(1, 1, 1, 1, 1, 1, 1, 1, 1, 1), rooted(10, 1, 0)), impl.ErrMany},
		"a phase that is none":             {turnedAt(list, 2, func(h *impl.Head) { h.Phase = 6 }), impl.ErrRange},
		"an epoch twice":                   {turnedAt(list, 2, func(h *impl.Head) { h.Epoch = 2 }), impl.ErrForm},
		"an Old root behind the cut":       {turnedAt(list, 3, func(h *impl.Head) { h.Old = 1 }), impl.ErrForm},
		"a root turned, and not bound":     {turnedAt(list, 1, func(h *impl.Head) { h.Old++ }), impl.ErrProof},
		"a last Prev":                      {turnedAt(list, 3, func(h *impl.Head) { h.Prev = (h.Prev + 1) % 65521 }), impl.ErrProof},
		"idle again":                       {chainOf(1, 2, 1), impl.ErrState},
		"away from the cut at the end":     {chainOf(1, 2, 3, 4, 4, 5), impl.ErrState},
		"a chain without its first head":   {list[1:], impl.ErrForm},
		"a last head that is no sum's":     {turnedAt(list, 3, func(h *impl.Head) { h.New = 65521 }), impl.ErrRange},
		"a hundred thousand heads of none": {make([]impl.Head, 100000), impl.ErrMany},
	}
}

// The fault of trusted, then that of list, then that there are fewer, then that they are not the same: alone, and at once.
func TestAuditChainCodes(t *testing.T) {
	good := append(longChains(), nil, chainOf(1), chainOf(1, 2, 3, 4), chainOf(4))
	for name, x := range brokenChains() {
		if code := impl.ChainFault(x.list); code != x.code {
			t.Fatalf("%s: ChainFault = %d, not %d", name, code, x.code)
		}
		// Whatever else is so: there are fewer, there are more, they are the same, they are not.
		for _, list := range good {
			if got := seeAudit(t, x.list, list); got != x.code {
				t.Errorf("%s, trusted: AuditChain = %d, not %d", name, got, x.code)
			}
			if got := seeAudit(t, list, x.list); got != x.code {
				t.Errorf("%s: AuditChain = %d, not %d", name, got, x.code)
			}
		}
		for other, y := range brokenChains() {
			if got := seeAudit(t, x.list, y.list); got != x.code {
				t.Errorf("%s, trusted, and %s: AuditChain = %d, not %d", name, other, got, x.code)
			}
		}
	}
}

// P15: heads that were seen stay, whatever is done, with crashes among it.
func TestP15HeadsStay(t *testing.T) {
	longer, same := 0, 0
	for walk := range uint32(40) {
		dice := walk*2654435761 + 4242
		roll := func(n int64) int64 {
			dice = dice*1664525 + 1013904223
			return int64(dice>>8) % n
		}
		s := impl.NewServer().Server
		seen := [][]impl.Head{nil}
		for range 40 {
			got := impl.CrashServer(s, roll(4))
			if roll(8) != 0 {
				got = impl.DoServer(s, opOf(rolled(s.State, roll)))
			}
			if got.Code != impl.OK {
				continue
			}
			s = got.Server
			for _, trusted := range seen {
				if code := impl.AuditChain(trusted, s.State.Heads); code != impl.OK {
					t.Fatalf("%+v were seen, and %+v are there: %d", trusted, s.State.Heads, code)
				}
				if len(trusted) < len(s.State.Heads) {
					longer++
					if code := impl.AuditChain(s.State.Heads, trusted); code != impl.ErrState {
						t.Fatalf("%+v taken back to %+v: %d", s.State.Heads, trusted, code)
					}
				} else {
					same++
				}
			}
			if len(seen) < 30 {
				seen = append(seen, s.State.Heads)
			}
		}
		seeAudit(t, seen[len(seen)-1], s.State.Heads)
	}
	if longer < 500 || same < 500 {
		t.Errorf("%d longer and %d of the same length alone", longer, same)
	}
}

// P15: each epoch that there is, each label: a sample where there are both roots, and none else.
func TestP15EachEpoch(t *testing.T) {
	seen := map[string]int{}
	for _, s := range clientStates() {
		x := known(s)
		for _, label := range clientLabels(s) {
			for epoch := int64(0); epoch <= int64(len(s.Heads))+1; epoch++ {
				got := seeSample(t, x, epoch, label)
				seen[fmt.Sprint("code ", got.Code)]++
				switch {
				case got.Code == impl.ErrState:
					if impl.FormsOf(s.Heads[epoch-1]).Value == 3 {
						t.Fatalf("SampleOf(%+v, %d, %q) = %+v by both roots", s, epoch, label, got)
					}
					seen[fmt.Sprint("phase ", s.Heads[epoch-1].Phase)]++
				case got.Code != impl.OK:
				case !got.Sample.Old.Held:
					seen["not held"]++
				case got.Sample.Old.Record.Label == label:
					seen["there"]++
				case got.Sample.Old.Record.Label == strings.ToLower(label):
					seen["there, not folded"]++
				default:
					seen["another label"]++
				}
			}
		}
	}
	for _, what := range []string{"code 0", "code 4", "code 10", "phase 1", "phase 2", "phase 4", "phase 5", "not held", "there", "there, not folded", "another label"} {
		if seen[what] < 10 {
			t.Errorf("%s: seen %d times alone: %v", what, seen[what], seen)
		}
	}
}

// P15: each of the 256 keys, of directories of nothing, of one and of MaxSlots records.
func TestP15EachKey(t *testing.T) {
	for _, d := range []impl.Directory{{}, directoryAt(77), spread(12, 3, 22), spread(12, 0, 1)} {
		x := watched([]int64{impl.PhaseDual}, []impl.Directory{d})
		x.s.Directory, x.s.Cursor, x.s.New = d, 256, slotsBy(d)
		x = known(x.s)
		for key := range int64(256) {
			_, held := atKey(d, key)
			for at, label := range keyLabels[key][:2] {
				got := seeSample(t, x, 1, label)
				if got.Code != impl.OK || got.Sample.Old.Held != held || got.Sample.New.Held != held {
					t.Fatalf("SampleOf the key %d = %+v", key, got)
				}
				if answer := impl.SeeReply(x.s.Heads[0], label, got.Sample.New).Answer; answer.Key != key || answer.There != (held && at == 0) {
					t.Fatalf("SampleOf the key %d tells %+v", key, answer)
				}
			}
		}
	}
}

// Epochs at their edges and far from them, with labels that are there, that are not, and that are none.
func TestSampleOfEpochs(t *testing.T) {
	for _, s := range append(turnable(), impl.State{Phase: 1}, stateOf(impl.PhaseDual, 256, spread(12, 3, 22), 3, 3, 3, 3, 3, 3, 3, 3, 3, 3)) {
		x, n := known(s), int64(len(s.Heads))
		for _, epoch := range slices.Concat(farNumbers, noEpochs, []int64{n - 1, n, n + 1, 9, 10, 11, n + 4294967296, -n}) {
			for _, label := range []string{keyLabels[3][0], "BOB", "a b"} {
				got := seeSample(t, x, epoch, label)
				if there := epoch >= 1 && epoch <= n; there == (got.Code == impl.ErrNone) {
					t.Fatalf("SampleOf the epoch %d of %d = %+v", epoch, n, got)
				}
			}
		}
	}
}

// The fault of the state, then that there is no head, then the label, then that a root is not there.
func TestSampleOfCodes(t *testing.T) {
	s := stateOf(impl.PhaseCutOver, 256, directoryAt(3, 77, 252), 1, 3, 4)
	bob := keyLabels[3][0]
	cases := map[string]struct {
		epoch int64
		label string
		code  int64
	}{
		"both roots":                          {2, bob, impl.OK},
		"both roots, not folded":              {2, strings.ToUpper(bob), impl.OK},
		"both roots, a label of nobody":       {2, keyLabels[200][0], impl.OK},
		"no New root":                         {1, bob, impl.ErrState},
		"no Old root":                         {3, bob, impl.ErrState},
		"no head":                             {4, bob, impl.ErrNone},
		"the epoch 0":                         {0, bob, impl.ErrNone},
		"no head, no label":                   {4, "", impl.ErrNone},
		"the epoch -1, a blank":               {-1, "a b", impl.ErrNone},
		"no label":                            {2, "", impl.ErrForm},
		"a label of 13 bytes":                 {2, "abcdefghijklm", impl.ErrMany},
		"a label with a blank":                {2, "a b", impl.ErrText},
		"no label, and no New root":           {1, "", impl.ErrForm},
		"13 bytes, and no Old root":           {3, "abcdefghijklm", impl.ErrMany},
		"a blank, and no Old root":            {3, "a b", impl.ErrText},
		"a label of nobody, and no New root":  {1, keyLabels[200][0], impl.ErrState},
		"a key of another's, and no Old root": {3, keyLabels[3][1], impl.ErrState},
	}
	for name, x := range cases {
		got := seeSample(t, known(s), x.epoch, x.label)
		if got.Code != x.code || x.code != impl.OK && !noSample(got, x.code) {
			t.Errorf("%s: SampleOf = %+v, not code %d", name, got, x.code)
		}
		if x.code == impl.OK && got.Sample.Label != x.label {
			t.Errorf("%s: SampleOf = %+v, of another label", name, got)
		}
	}
	for _, label := range slices.Concat(goodLabels, notFolded, noLabels) {
		for epoch := int64(1); epoch <= 4; epoch++ {
			seeSample(t, known(s), epoch, label)
		}
	}
	codes := map[int64]int{}
	for _, s := range turnable() {
		for _, x := range stateTurns() {
			bad := known(turnedState(s, x.turn))
			for _, epoch := range []int64{0, 2, 3, 11} {
				for _, label := range []string{bob, "", "a b"} {
					if got := seeSample(t, bad, epoch, label); !noSample(got, x.code) {
						t.Fatalf("%s: SampleOf = %+v, not code %d", x.name, got, x.code)
					}
				}
			}
			codes[x.code]++
		}
	}
	for _, code := range []int64{impl.ErrForm, impl.ErrMany, impl.ErrRange, impl.ErrText, impl.ErrProof, impl.ErrState} {
		if codes[code] == 0 {
			t.Errorf("code %d was not seen: %v", code, codes)
		}
	}
}

// lyingReplies: replies of epoch 2 of fourReplies to the key 200, which has nothing, by both trees: there is a record, and they are taken.
func lyingReplies(s impl.State) []impl.Reply {
	slots, liar := slotsBy(s.Past[1]), by(200, 1, 5)
	value := sumBack(packedBy(liar))
	var out []impl.Reply
	for level := range 8 {
		for _, x := range forged(oldLevels(slots), story{key: 200, there: true, value: value}, level) {
			out = append(out, impl.Reply{Epoch: 2, Held: true, Record: liar, Said: x.said()})
		}
	}
	leaf := impl.Slot{Key: 200, Value: value}
	for bit := range int64(8) {
		for _, fork := range forksTo(200, bit, newRootBy([]impl.Slot{leaf}), s.Heads[1].New) {
			said := impl.Said{There: true, Value: value, Trail: impl.Trail{Any: true, Leaf: leaf, Forks: []impl.Fork{fork}}}
			out = append(out, impl.Reply{Epoch: 2, Held: true, Record: liar, Said: said})
		}
	}
	return out
}

// withRecord: the same reply, of another record of the same sum.
func withRecord(r impl.Reply, record impl.Record) impl.Reply {
	return turnedReply(r, func(r *impl.Reply) { r.Record = record })
}

// twinOf: another record of the same label and Version, of the same sum; more in Owner is less in Pin.
func twinOf(r impl.Record) impl.Record {
	if r.Pin+139*256 <= 65520 && r.Owner%256 > 0 {
		r.Owner, r.Pin = r.Owner-1, r.Pin+139*256
	} else {
		r.Owner, r.Pin = r.Owner+1, r.Pin-139*256
	}
	return r
}

// saying: two replies to a label of the key 77 or 200 in epoch 2 of fourReplies, and what is so of them.
type saying struct {
	name  string
	label string
	a, b  impl.Reply
	value int64
}

// sayings: of two replies that are both taken, by one tree and by both: one answer, or two.
func sayings() (impl.State, []saying) {
	s, replies := fourReplies()
	there, none := replies[:2], replies[2:]
	label, second, third, nobody := keyLabels[77][0], keyLabels[77][1], keyLabels[77][2], keyLabels[200][0]
	is := there[0].Record
	twin := twinOf(is)
	moved := pinnedTo(second, there[0].Said.Value)[0]
	fallen := pinnedTo(label, there[0].Said.Value)[0]
	var out []saying
	add := func(name string, label string, a impl.Reply, b impl.Reply, value int64) {
		out = append(out, saying{name, label, a, b, value}, saying{name + ", the other way round", label, b, a, value})
	}
	for _, a := range []int{0, 1} {
		for _, b := range []int{0, 1} {
			trees := fmt.Sprintf(", by %d and %d", a, b)
			add("there"+trees, label, there[a], there[b], 1)
			add("there, not folded"+trees, strings.ToUpper(label), there[a], there[b], 1)
			add("another label of that key"+trees, second, there[a], there[b], 1)
			add("not there"+trees, nobody, none[a], none[b], 1)
			add("another record"+trees, label, there[a], withRecord(there[b], twin), 2)
			add("another version"+trees, label, there[a], withRecord(there[b], fallen), 2)
			add("another record, to another label"+trees, second, there[a], withRecord(there[b], twin), 1)
			add("the same other record"+trees, label, withRecord(there[a], twin), withRecord(there[b], twin), 1)
			add("of two labels, to the first one"+trees, label, there[a], withRecord(there[b], moved), 2)
			add("of two labels, to the second one"+trees, second, there[a], withRecord(there[b], moved), 2)
			add("of two labels, to a third one"+trees, third, there[a], withRecord(there[b], moved), 1)
		}
	}
	lies := lyingReplies(s)
	for at, lie := range lies {
		add("a lie", nobody, lie, none[at%2], 2)
		add("a lie, to another label of that key", keyLabels[200][1], lie, none[at%2], 1)
		add("two lies", nobody, lie, lies[(at+1)%len(lies)], 1)
		add("two lies, far", nobody, lie, lies[len(lies)-1-at], 1)
	}
	return s, out
}

// Two replies that are both taken: 1 where they tell one answer, 2 where they do not; a sample is right by 1, the old tree ahead.
func TestBothSaidAndSampleRight(t *testing.T) {
	s, all := sayings()
	seen := map[string]int{}
	for _, x := range all {
		if got := seeBoth(t, s.Heads[1], x.label, x.a, x.b); got != (impl.IntResult{Value: x.value}) {
			t.Errorf("%s: BothSaid(%q, %+v, %+v) = %+v, not %d", x.name, x.label, x.a, x.b, got, x.value)
		}
		right := x.value == 1 && x.a.Said.Old && !x.b.Said.Old
		if got := seeRight(t, s.Heads[1], impl.Sample{Label: x.label, Old: x.a, New: x.b}); got != right {
			t.Errorf("%s: SampleRight(%q, %+v, %+v) = %v", x.name, x.label, x.a, x.b, got)
		}
		seen[fmt.Sprint(x.value, " ", x.a.Said.Old, " ", x.b.Said.Old)]++
	}
	for _, value := range []int64{1, 2} {
		for _, trees := range []string{"true true", "true false", "false true", "false false"} {
			if what := fmt.Sprint(value, " ", trees); seen[what] < 3 {
				t.Errorf("%s: seen %d times alone: %v", what, seen[what], seen)
			}
		}
	}
}

// toldTurns: one thing of a reply that is not so, also where the reply itself has no fault.
func toldTurns(r impl.Reply) []replyTurn {
	proof := func(r *impl.Reply) {
		x := seeing{r: *r}
		otherProof(&x)
		*r = x.r
	}
	return append(turnsFor(r),
		replyTurn{"of another epoch", 7, impl.ErrState, func(r *impl.Reply) { r.Epoch = 1 }},
		replyTurn{"another proof", 8, impl.ErrProof, proof})
}

// The code of the first reply, then that of the second one; head and label are asked with the first one.
func TestBothSaidCodes(t *testing.T) {
	s, replies := fourReplies()
	h, pairs := s.Heads[1], 0
	for at, first := range replies {
		label := keyLabels[[]int64{77, 77, 200, 200}[at]][0]
		for _, second := range replies[at/2*2 : at/2*2+2] {
			for _, a := range toldTurns(first) {
				bad := turnedReply(first, a.turn)
				for _, got := range []impl.IntResult{seeBoth(t, h, label, bad, second), seeBoth(t, h, label, second, bad), seeBoth(t, h, label, bad, bad)} {
					if got != (impl.IntResult{Code: a.code}) {
						t.Errorf("%s: BothSaid = %+v, not code %d", a.name, got, a.code)
					}
				}
				if seeRight(t, h, impl.Sample{Label: label, Old: bad, New: second}) || seeRight(t, h, impl.Sample{Label: label, Old: second, New: bad}) {
					t.Errorf("%s: SampleRight", a.name)
				}
				for _, b := range toldTurns(second) {
					if got := seeBoth(t, h, label, bad, turnedReply(second, b.turn)); got != (impl.IntResult{Code: a.code}) {
						t.Errorf("%s, then %s: BothSaid = %+v, not code %d", a.name, b.name, got, a.code)
					}
					pairs++
				}
			}
			for _, x := range seeingTurns() {
				if x.rank >= 2 {
					continue
				}
				given := seeing{h, label, first}
				x.turn(&given)
				for _, a := range toldTurns(first) {
					for _, b := range toldTurns(second)[:3] {
						if got := seeBoth(t, given.h, given.label, turnedReply(first, a.turn), turnedReply(second, b.turn)); got != (impl.IntResult{Code: x.code}) {
							t.Errorf("%s: BothSaid = %+v, not code %d", x.name, got, x.code)
						}
					}
				}
				if seeRight(t, given.h, impl.Sample{Label: given.label, Old: first, New: second}) {
					t.Errorf("%s: SampleRight", x.name)
				}
			}
		}
	}
	if pairs < 2000 {
		t.Errorf("%d pairs alone", pairs)
	}
}

// An epoch of one root alone has no sample: whoever is asked by the other tree has no answer there.
func TestBothSaidByOneRoot(t *testing.T) {
	s := stateOf(impl.PhaseCutOver, 256, directoryAt(3, 77, 252), 1, 2, 3, 5, 3, 4, 4)
	x := known(s)
	codes := map[int64]int{}
	for at, h := range s.Heads {
		d, epoch := s.Past[at], int64(at)+1
		for _, key := range []int64{3, 25, 200} {
			label := keyLabels[key][0]
			record, held := atKey(d, key)
			said := func(old bool) impl.Reply {
				return impl.Reply{Epoch: epoch, Held: held, Record: record, Said: saidIn(d, key, old)}
			}
			byOld, byNew := said(true), said(false)
			oldCode, newCode := seenBy(h, label, byOld).Code, seenBy(h, label, byNew).Code
			forms := impl.FormsOf(h).Value
			if oldCode != map[int64]int64{1: 0, 2: impl.ErrState, 3: 0}[forms] || newCode != map[int64]int64{1: impl.ErrState, 2: 0, 3: 0}[forms] {
				t.Fatalf("%+v by %+v: %d, %d", h, byOld, oldCode, newCode)
			}
			got := seeBoth(t, h, label, byOld, byNew)
			if got.Code != max(oldCode, newCode) || got != seeBoth(t, h, label, byNew, byOld) {
				t.Errorf("BothSaid(%+v) = %+v", h, got)
			}
			codes[got.Code]++
			// By the tree that is there, twice, is one answer; it is no sample.
			alone := byOld
			if forms == 2 {
				alone = byNew
			}
			if got := seeBoth(t, h, label, alone, replyCopy(alone)); got != (impl.IntResult{Value: 1}) {
				t.Errorf("BothSaid(%+v) by one tree = %+v", h, got)
			}
			for _, two := range [][2]impl.Reply{{byOld, byNew}, {byNew, byOld}, {byOld, byOld}, {byNew, byNew}, {alone, {}}, {{}, alone}} {
				sample := impl.Sample{Label: label, Old: two[0], New: two[1]}
				right := forms == 3 && sample.Old.Said.Old && sameReply(sample.New, byNew)
				if got := seeRight(t, h, sample); got != right {
					t.Errorf("SampleRight(%+v, %+v) = %v", h, sample, got)
				}
			}
			// Of another epoch, of another label, and of none.
			for _, other := range s.Heads {
				if got := seeRight(t, other, impl.Sample{Label: label, Old: byOld, New: byNew}); got != (other == h && forms == 3) {
					t.Errorf("SampleRight(%+v) of the epoch %d = %v", other, epoch, got)
				}
			}
			elsewhere := map[int64]int64{3: 25, 25: 3, 200: 3}[key]
			for _, wrong := range []string{keyLabels[elsewhere][0], keyLabels[key^1][0], "", "a b", "abcdefghijklm"} {
				// That a key has nothing may show as well that the one beside it has nothing.
				if seeRight(t, h, impl.Sample{Label: wrong, Old: byOld, New: byNew}) && (held || wrong != keyLabels[key^1][0]) {
					t.Errorf("SampleRight(%+v) of %q", h, wrong)
				}
			}
			if told := x.sampleOf(epoch, label); told.Code == impl.OK && !sameSample(told.Sample, impl.Sample{Label: label, Old: byOld, New: byNew}) {
				t.Fatalf("the words said over again tell %+v", told)
			}
		}
	}
	if codes[impl.OK] == 0 || codes[impl.ErrState] == 0 {
		t.Errorf("%v", codes)
	}
}

// The proofs of a sample turned, one thing alone: it is not right any more.
func TestSampleRightProofsTurned(t *testing.T) {
	turned := 0
	for _, s := range []impl.State{turnable()[2], stateOf(impl.PhaseDual, 256, impl.Directory{}, 3, 3, 3, 3, 3, 3, 3, 3, 3, 3)} {
		x := known(s)
		epoch := int64(len(s.Heads))
		for _, key := range []int64{3, 25, 200} {
			label := keyLabels[key][0]
			good := x.sampleOf(epoch, label).Sample
			for _, bad := range pathTurns(good.Old) {
				if !sameReply(bad, good.Old) && seeRight(t, s.Heads[epoch-1], impl.Sample{Label: label, Old: bad, New: good.New}) {
					t.Errorf("SampleRight of %+v", bad)
				}
				turned++
			}
			for _, bad := range trailTurns(good.New) {
				if !sameReply(bad, good.New) && seeRight(t, s.Heads[epoch-1], impl.Sample{Label: label, Old: good.Old, New: bad}) {
					t.Errorf("SampleRight of %+v", bad)
				}
				turned++
			}
		}
	}
	if turned < 400 {
		t.Errorf("%d turned alone", turned)
	}
}

// lone: a directory of one record, or of none where that is zero, beside one that is always there.
func lone(r impl.Record) impl.Directory {
	if r == (impl.Record{}) {
		return directoryAt(3)
	}
	return impl.Directory{Records: []impl.Record{by(3, 1, secretOf(3)), r}}
}

func loneAll(records []impl.Record) []impl.Directory {
	var out []impl.Directory
	for _, r := range records {
		out = append(out, lone(r))
	}
	return out
}

// watchPhases: chains of n heads that are idle, of both roots, behind the cut, and that go from one to the other.
func watchPhases(n int) [][]int64 {
	all := [][]int64{{1, 1, 1, 1, 1, 1}, {3, 3, 3, 3, 3, 3}, {4, 4, 4, 4, 4, 4}, {1, 2, 3, 3, 4, 4}, {3, 5, 2, 3, 4, 4}}
	var out [][]int64
	for _, phases := range all {
		out = append(out, phases[:n])
	}
	return out
}

// What is seen of a label epoch by epoch: it stays, it rises, it comes; or it falls, it is another one, it goes.
func TestWatchOwnTimes(t *testing.T) {
	v := func(version int64) impl.Record { return by(77, version, 231) }
	pinned, owned := v(2), v(2)
	pinned.Pin, owned.Owner = pinned.Pin+1, owned.Owner+1
	next := impl.Record{Label: v(1).Label, Version: 3, Owner: 9, Pin: 8}
	other := func(version int64) impl.Record {
		return impl.Record{Label: keyLabels[77][1], Version: version, Owner: 5, Pin: 6}
	}
	none := impl.Record{}
	cases := map[string]struct {
		records []impl.Record
		want    impl.IntResult
	}{
		"never there":                              {[]impl.Record{none, none, none}, impl.IntResult{}},
		"never there, one epoch":                   {[]impl.Record{none}, impl.IntResult{}},
		"there, one epoch":                         {[]impl.Record{v(1)}, impl.IntResult{Value: 1}},
		"there from the first one on":              {[]impl.Record{v(1), v(1), v(1)}, impl.IntResult{Value: 1}},
		"there from a later one on":                {[]impl.Record{none, none, v(1), v(1)}, impl.IntResult{Value: 1}},
		"there in the last one":                    {[]impl.Record{none, none, none, v(1)}, impl.IntResult{Value: 1}},
		"there with a later version first":         {[]impl.Record{none, v(5), v(5)}, impl.IntResult{Value: 5}},
		"it rises":                                 {[]impl.Record{v(1), v(2), v(3), v(4)}, impl.IntResult{Value: 4}},
		"it stays and rises":                       {[]impl.Record{v(1), v(1), v(2), v(2), v(3)}, impl.IntResult{Value: 3}},
		"it rises by more than one":                {[]impl.Record{v(1), v(9), v(999)}, impl.IntResult{Value: 999}},
		"it rises with another owner and pin":      {[]impl.Record{v(2), next, next}, impl.IntResult{Value: 3}},
		"it falls":                                 {[]impl.Record{v(2), v(1)}, impl.IntResult{Code: impl.ErrVersion}},
		"it falls from the last one":               {[]impl.Record{v(999), v(1)}, impl.IntResult{Code: impl.ErrVersion}},
		"it falls at the end":                      {[]impl.Record{none, v(1), v(2), v(2), v(1)}, impl.IntResult{Code: impl.ErrVersion}},
		"it falls, and rises again":                {[]impl.Record{v(2), v(1), v(2), v(3)}, impl.IntResult{Code: impl.ErrVersion}},
		"it falls below one that is not the first": {[]impl.Record{v(1), v(3), v(2)}, impl.IntResult{Code: impl.ErrVersion}},
		"it stays with another pin":                {[]impl.Record{v(2), pinned}, impl.IntResult{Code: impl.ErrVersion}},
		"it stays with another owner":              {[]impl.Record{v(2), owned, owned}, impl.IntResult{Code: impl.ErrVersion}},
		"it stays with another pin, and rises":     {[]impl.Record{v(1), v(2), pinned, v(3)}, impl.IntResult{Code: impl.ErrVersion}},
		"it rises with another pin, and stays":     {[]impl.Record{v(1), pinned, pinned, v(3)}, impl.IntResult{Value: 3}},
		"it goes":                                  {[]impl.Record{v(1), none}, impl.IntResult{Code: impl.ErrVersion}},
		"it goes at the end":                       {[]impl.Record{none, v(1), v(2), none}, impl.IntResult{Code: impl.ErrVersion}},
		"it goes, and comes again":                 {[]impl.Record{v(1), none, v(2)}, impl.IntResult{Code: impl.ErrVersion}},
		"it goes, and comes as it was":             {[]impl.Record{v(1), none, v(1)}, impl.IntResult{Code: impl.ErrVersion}},
		"another label takes its key":              {[]impl.Record{v(1), other(2)}, impl.IntResult{Code: impl.ErrVersion}},
		"another label had its key":                {[]impl.Record{other(5), v(1)}, impl.IntResult{Value: 1}},
		"another label had its key for long":       {[]impl.Record{none, other(5), other(6), v(1), v(2)}, impl.IntResult{Value: 2}},
		"another label has its key":                {[]impl.Record{other(5), other(6)}, impl.IntResult{}},
		"another label's versions fall":            {[]impl.Record{other(6), other(5), none}, impl.IntResult{}},
	}
	for name, c := range cases {
		for _, phases := range watchPhases(len(c.records)) {
			x := watched(phases, loneAll(c.records))
			for trees := range 1 << len(phases) {
				for _, label := range []string{v(1).Label, strings.ToUpper(v(1).Label)} {
					if got := seeWatch(t, x.s.Heads, label, x.withoutFault().toldOf(label, trees)); got != c.want {
						t.Errorf("%s: WatchOwn in the phases %v = %+v, not %+v", name, phases, got, c.want)
					}
				}
			}
		}
	}
}

// withoutFault: the epochs alone are asked, of which a state may have come in ways that none could.
func (x knownState) withoutFault() knownState {
	x.code = impl.OK
	return x
}

// All timelines of up to four epochs, of six things that a key may have, by trees that turn.
func TestWatchOwnAllTimes(t *testing.T) {
	v := func(version int64) impl.Record { return by(77, version, 231) }
	pinned := v(1)
	pinned.Pin++
	other := impl.Record{Label: keyLabels[77][1], Version: 1, Owner: 5, Pin: 6}
	things := []impl.Record{{}, v(1), pinned, v(2), v(3), other}
	label, seen := v(1).Label, map[impl.IntResult]int{}
	// What is said of a key by a root hangs on neither the epoch nor the head ahead: it is worked out once.
	replies := map[impl.Record]map[bool]impl.Reply{}
	heads := map[impl.Record]impl.Head{}
	for _, r := range things {
		x := watched([]int64{3}, []impl.Directory{lone(r)}).withoutFault()
		heads[r] = x.s.Heads[0]
		replies[r] = map[bool]impl.Reply{true: x.replyTo(1, label, true).Reply, false: x.replyTo(1, label, false).Reply}
	}
	var grow func(records []impl.Record)
	grow = func(records []impl.Record) {
		var list []impl.Head
		var told []impl.Reply
		prev := int64(0)
		for at, r := range records {
			h := heads[r]
			h.Epoch, h.Prev = int64(at)+1, prev
			prev = sumBack(headPacked(h))
			list = append(list, h)
			reply := replies[r][(at+len(records)+len(r.Label))%2 == 0]
			reply.Epoch = h.Epoch
			told = append(told, reply)
		}
		seen[seeWatch(t, list, label, told)]++
		if len(records) == 4 {
			return
		}
		for _, r := range things {
			grow(append(slices.Clone(records), r))
		}
	}
	grow(nil)
	for _, want := range []impl.IntResult{{}, {Value: 1}, {Value: 2}, {Value: 3}, {Code: impl.ErrVersion}} {
		if seen[want] < 10 {
			t.Errorf("%+v: seen %d times alone: %v", want, seen[want], seen)
		}
	}
	if len(seen) != 5 {
		t.Errorf("%v", seen)
	}
}

// One root, and two records of it: who watches sees that the Version falls, or that it stays with another record.
func TestWatchOwnForged(t *testing.T) {
	s, replies := fourReplies()
	d := s.Past[1]
	x := watched([]int64{3, 3, 4}, []impl.Directory{d, d, d}).withoutFault()
	label := keyLabels[77][0]
	is := replies[0].Record
	fallen := pinnedTo(label, replies[0].Said.Value)[0]
	risen := is
	for version := is.Version + 1; risen == is; version++ {
		r := impl.Record{Label: label, Version: version, Owner: is.Owner}
		for _, pin := range numbersTo(replies[0].Said.Value, func(pin int64) int64 { r.Pin = pin; return sumBack(packedBy(r)) }) {
			r.Pin = pin
			risen = r
		}
	}
	for trees := range 4 {
		told := x.toldOf(label, trees)
		for at := range told {
			for name, c := range map[string]struct {
				record impl.Record
				want   [3]impl.IntResult
			}{
				"as it is":              {is, [3]impl.IntResult{{Value: is.Version}, {Value: is.Version}, {Value: is.Version}}},
				"another of the sum":    {twinOf(is), [3]impl.IntResult{{Code: impl.ErrVersion}, {Code: impl.ErrVersion}, {Code: impl.ErrVersion}}},
				"an earlier version":    {fallen, [3]impl.IntResult{{Value: is.Version}, {Code: impl.ErrVersion}, {Code: impl.ErrVersion}}},
				"a later version":       {risen, [3]impl.IntResult{{Code: impl.ErrVersion}, {Code: impl.ErrVersion}, {Value: risen.Version}}},
				"another label's":       {pinnedTo(keyLabels[77][1], replies[0].Said.Value)[0], [3]impl.IntResult{{Value: is.Version}, {Code: impl.ErrVersion}, {Code: impl.ErrVersion}}},
				"a record of elsewhere": {pinnedTo(keyLabels[78][0], replies[0].Said.Value)[0], [3]impl.IntResult{{Code: impl.ErrProof}, {Code: impl.ErrProof}, {Code: impl.ErrProof}}},
			} {
				turned := replied(told, at, func(r *impl.Reply) { r.Record = c.record })
				if got := seeWatch(t, x.s.Heads, label, turned); got != c.want[at] {
					t.Errorf("%s at %d: WatchOwn = %+v, not %+v", name, at, got, c.want[at])
				}
			}
		}
	}
}

// P15: along histories of all kinds of calls, who watches a label sees its versions rise.
func TestP15Watched(t *testing.T) {
	values, rose := map[int64]int{}, 0
	for walk := range uint32(80) {
		dice := walk*2654435761 + 99
		roll := func(n int64) int64 {
			dice = dice*1664525 + 1013904223
			return int64(dice>>8) % n
		}
		s := impl.NewState().State
		for range 60 {
			did := rolled(s, roll).ask(s)
			if did.Code == impl.OK {
				s = did.State
			}
		}
		n := int64(len(s.Heads))
		for range 6 {
			label := keyLabels[roll(8)*255/7][roll(5)/4]
			var told []impl.Reply
			for epoch := int64(1); epoch <= n; epoch++ {
				reply := impl.ReplyTo(s, epoch, label, roll(2) == 0)
				if reply.Code == impl.ErrState {
					reply = impl.ReplyTo(s, epoch, label, impl.FormsOf(s.Heads[epoch-1]).Value == 1)
				}
				if reply.Code != impl.OK {
					t.Fatalf("ReplyTo(%+v, %d, %q) = %+v", s, epoch, label, reply)
				}
				told = append(told, reply.Reply)
			}
			ahead := int64(0)
			for epoch := range n + 1 {
				got := seeWatch(t, s.Heads[:epoch], label, told[:epoch])
				want := int64(0)
				if epoch > 0 {
					want = impl.PastAnswer(s, epoch, label).Answer.Record.Version
				}
				if got != (impl.IntResult{Value: want}) || got.Value < ahead {
					t.Fatalf("WatchOwn of %q up to the epoch %d of %+v = %+v, not %d behind %d", label, epoch, s, got, want, ahead)
				}
				if got.Value > ahead && ahead > 0 {
					rose++
				}
				ahead = got.Value
				values[got.Value]++
			}
		}
		seeCut(t, s.Heads)
	}
	if rose < 30 || values[0] < 100 || values[1] < 50 || values[2] < 20 {
		t.Errorf("%d rose alone: %v", rose, values)
	}
}

// fourWatched: a label that is watched over four epochs of both roots, of the Versions 2 to 5.
func fourWatched() (knownState, string, []impl.Reply) {
	v := func(version int64) impl.Record { return by(77, version, 231) }
	x := watched([]int64{3, 3, 3, 3}, loneAll([]impl.Record{v(2), v(3), v(4), v(5)})).withoutFault()
	return x, v(1).Label, x.toldOf(v(1).Label, 5)
}

// As many replies as heads, and no others.
func TestWatchOwnMany(t *testing.T) {
	x, label, told := fourWatched()
	many := append(repliesCopy(told), repliesCopy(told)...)
	for n := range 5 {
		for m := range 9 {
			got := seeWatch(t, x.s.Heads[:n], label, many[:m])
			want := impl.IntResult{Value: []int64{0, 2, 3, 4, 5}[n]}
			if n != m {
				want = impl.IntResult{Code: impl.ErrMany}
			}
			if got != want {
				t.Errorf("WatchOwn of %d heads, %d replies = %+v", n, m, got)
			}
			// It is asked ahead of all that is seen in a reply, and of the label.
			if n != m {
				for _, wrong := range []string{"", "a b", "abcdefghijklm", keyLabels[9][0]} {
					if got := seeWatch(t, x.s.Heads[:n], wrong, make([]impl.Reply, m)); got != want {
						t.Errorf("WatchOwn of %q, %d heads, %d replies = %+v", wrong, n, m, got)
					}
				}
			}
		}
	}
	// No reply and no head: nobody looks at the label.
	for _, wrong := range slices.Concat(noLabels, goodLabels) {
		if got := seeWatch(t, nil, wrong, nil); got != (impl.IntResult{}) {
			t.Errorf("WatchOwn of nothing and %q = %+v", wrong, got)
		}
		if got := seeWatch(t, []impl.Head{}, wrong, []impl.Reply{}); got != (impl.IntResult{}) {
			t.Errorf("WatchOwn of empty lists and %q = %+v", wrong, got)
		}
		if got := seeWatch(t, nil, wrong, make([]impl.Reply, 1)); got != (impl.IntResult{Code: impl.ErrMany}) {
			t.Errorf("WatchOwn of no head, a reply and %q = %+v", wrong, got)
		}
	}
}

// The fault of the chain, then how many, then reply by reply: what is seen, then the Version.
func TestWatchOwnCodes(t *testing.T) {
	x, label, told := fourWatched()
	heads := x.s.Heads
	for name, broken := range brokenChains() {
		for _, n := range []int{0, 3, 4, len(broken.list)} {
			for _, wrong := range []string{label, ""} {
				if got := seeWatch(t, broken.list, wrong, make([]impl.Reply, n)); got != (impl.IntResult{Code: broken.code}) {
					t.Errorf("%s, %d replies: WatchOwn = %+v, not code %d", name, n, got, broken.code)
				}
			}
		}
	}
	for wrong, code := range map[string]int64{"": impl.ErrForm, "abcdefghijklm": impl.ErrMany, "a b": impl.ErrText, keyLabels[78][0]: impl.ErrProof} {
		if got := seeWatch(t, heads, wrong, told); got != (impl.IntResult{Code: code}) {
			t.Errorf("WatchOwn of %q = %+v", wrong, got)
		}
	}
	// The Version falls where the epoch has the roots of a directory of the Version 1.
	low := watched([]int64{3}, []impl.Directory{lone(by(77, 1, 231))}).withoutFault()
	falls := func(at int) []impl.Reply {
		return replied(told, at, func(r *impl.Reply) {
			*r = low.toldOf(label, at)[0]
			r.Epoch = int64(at) + 1
		})
	}
	fallen := func(at int) []impl.Head {
		return boundAnew(turnedAt(heads, at, func(h *impl.Head) { h.Old, h.New = low.s.Heads[0].Old, low.s.Heads[0].New }), at)
	}
	seen := map[int64]int{}
	for at := range told {
		otherEpoch := replyTurn{"of another epoch", 7, impl.ErrState, func(r *impl.Reply) { r.Epoch = r.Epoch%4 + 1 }}
		for _, a := range append(turnsFor(told[at]), otherEpoch, toldTurns(told[at])[len(turnsFor(told[at]))+1]) {
			bad := replied(told, at, a.turn)
			if got := seeWatch(t, heads, label, bad); got != (impl.IntResult{Code: a.code}) {
				t.Errorf("%s at %d: WatchOwn = %+v, not code %d", a.name, at, got, a.code)
			}
			seen[a.code]++
			for next := at + 1; next < len(told); next++ {
				// A later one has another code, or its Version falls: the one ahead tells.
				for _, b := range turnsFor(told[next]) {
					if got := seeWatch(t, heads, label, replied(bad, next, b.turn)); got != (impl.IntResult{Code: a.code}) {
						t.Errorf("%s at %d, %s at %d: WatchOwn = %+v, not code %d", a.name, at, b.name, next, got, a.code)
					}
				}
				late := replied(falls(next), at, a.turn)
				if got := seeWatch(t, fallen(next), label, late); got != (impl.IntResult{Code: a.code}) {
					t.Errorf("%s at %d, a Version that falls at %d: WatchOwn = %+v, not code %d", a.name, at, next, got, a.code)
				}
			}
			for ahead := 1; ahead < at; ahead++ {
				early := replied(falls(ahead), at, a.turn)
				if got := seeWatch(t, fallen(ahead), label, early); got != (impl.IntResult{Code: impl.ErrVersion}) {
					t.Errorf("a Version that falls at %d, %s at %d: WatchOwn = %+v", ahead, a.name, at, got)
				}
			}
		}
		if at > 0 {
			if got := seeWatch(t, fallen(at), label, falls(at)); got != (impl.IntResult{Code: impl.ErrVersion}) {
				t.Errorf("a Version that falls at %d: WatchOwn = %+v", at, got)
			}
		}
	}
	for _, code := range []int64{impl.ErrForm, impl.ErrMany, impl.ErrRange, impl.ErrText, impl.ErrProof, impl.ErrState} {
		if seen[code] == 0 {
			t.Errorf("code %d was not seen: %v", code, seen)
		}
	}
	// Replies in another order are of other epochs.
	for at := range 3 {
		if got := seeWatch(t, heads, label, replied(replied(told, at, func(r *impl.Reply) { *r = told[at+1] }), at+1, func(r *impl.Reply) { *r = told[at] })); got != (impl.IntResult{Code: impl.ErrState}) {
			t.Errorf("replies turned at %d: WatchOwn = %+v", at, got)
		}
	}
}

// P15: all phases one behind the other, up to five of them: a chain has at most one place of the cut.
func TestP15Cuts(t *testing.T) {
	places := map[int64]int{}
	var grow func(phases []int64)
	grow = func(phases []int64) {
		list := chainOf(phases...)
		place, want := seeCut(t, list), int64(slices.Index(phases, impl.PhaseCutOver))
		if chainCode(list) != impl.OK {
			want = -1
		}
		if place != want {
			t.Fatalf("the cut of %v is at %d, not at %d", phases, place, want)
		}
		places[place]++
		if len(phases) == 5 {
			return
		}
		for _, phase := range allPhases {
			grow(append(slices.Clone(phases), phase))
		}
	}
	grow(nil)
	for place := int64(-1); place < 5; place++ {
		if places[place] == 0 {
			t.Errorf("no cut at %d: %v", place, places)
		}
	}
}

// A chain of each length, with a cut at each place and with none.
func TestCutOverRightPlaces(t *testing.T) {
	far := append(slices.Clone(farNumbers), math.MinInt64+4, 4294967296+4, -4294967296+4, math.MaxInt64-4)
	for n := range 11 {
		for cut := range n + 1 {
			phases := slices.Concat(slices.Repeat([]int64{1, 2, 3, 5, 3}, 2)[:cut], slices.Repeat([]int64{4}, n-cut))
			for at := 1; at < cut; at++ {
				// Idle stands at the front alone.
				phases[at] = max(phases[at], 2)
			}
			list := chainOf(phases...)
			want := int64(cut)
			if cut == n {
				want = -1
			}
			if got := seeCut(t, list); got != want || chainCode(list) != impl.OK {
				t.Errorf("the cut of %v is at %d, not at %d", phases, got, want)
			}
			for _, at := range far {
				if got := impl.CutOverRight(list, at); got != (at == want && cut < n) {
					t.Errorf("CutOverRight(%v, %d) = %v", phases, at, got)
				}
			}
			// With one fault, at whatever head, it is right nowhere.
			for at := range list {
				for _, turn := range []func(h *impl.Head){
					func(h *impl.Head) { h.Prev = (h.Prev + 1) % 65521 },
					func(h *impl.Head) { h.Epoch++ },
					func(h *impl.Head) { h.Old, h.New = 5, 65521 },
					func(h *impl.Head) { h.Phase = 0 },
				} {
					bad := turnedAt(list, at, turn)
					if got := seeCut(t, bad); got != -1 {
						t.Errorf("the cut of %+v is at %d", bad, got)
					}
				}
			}
		}
	}
	for name, x := range brokenChains() {
		if len(x.list) > 20 {
			continue
		}
		if got := seeCut(t, x.list); got != -1 {
			t.Errorf("%s: the cut is at %d", name, got)
		}
	}
	eleven := append(chainOf(4, 4, 4, 4, 4, 4, 4, 4, 4, 4), rooted(10, 4, 0))
	if seeCut(t, eleven) != -1 || seeCut(t, eleven[:10]) != 0 || seeCut(t, nil) != -1 {
		t.Error("a chain that is behind the cut from its first head on")
	}
}

// auditAsked: one call of each function of the chapter.
type auditAsked struct {
	trusted []impl.Head
	list    []impl.Head
	replies []impl.Reply
	sample  impl.Sample
	h       impl.Head
	s       impl.State
	epoch   int64
	at      int64
	label   string
}

func (x auditAsked) samples() []impl.SampleResult {
	return []impl.SampleResult{impl.SampleOf(x.s, x.epoch, x.label), impl.SampleOf(x.s, 2, x.sample.Label)}
}

func (x auditAsked) ask() string {
	return fmt.Sprint(impl.AuditChain(x.trusted, x.list), impl.SampleRight(x.h, x.sample), x.samples(), impl.WatchOwn(x.list, x.label, x.replies), impl.CutOverRight(x.list, x.at), impl.BothSaid(x.h, x.sample.Label, x.sample.Old, x.sample.New))
}

func (x auditAsked) copied() auditAsked {
	x.trusted, x.list, x.replies, x.s = slices.Clone(x.trusted), slices.Clone(x.list), repliesCopy(x.replies), stateCopy(x.s)
	x.sample.Old, x.sample.New = replyCopy(x.sample.Old), replyCopy(x.sample.New)
	return x
}

func someAuditsAsked() []auditAsked {
	var out []auditAsked
	for _, s := range append(fewStates(), turnable()...) {
		x := known(s)
		n := int64(len(s.Heads))
		for epoch := int64(0); epoch <= n+1; epoch++ {
			for at, label := range []string{keyLabels[3][0], strings.ToUpper(keyLabels[3][0]), keyLabels[200][0]} {
				h := s.Heads[max(epoch, 1)%n]
				sample := x.sampleOf(h.Epoch, label).Sample
				sample.Label = label
				out = append(out, auditAsked{s.Heads[:at%2+1], s.Heads, x.toldOf(label, at), sample, h, s, epoch, n - 1, label})
			}
		}
	}
	s, all := sayings()
	for _, x := range all[:60] {
		out = append(out, auditAsked{nil, s.Heads, known(s).toldOf(x.label, 1), impl.Sample{Label: x.label, Old: x.a, New: x.b}, s.Heads[1], s, 2, 0, x.label})
	}
	four, label, told := fourWatched()
	for name, broken := range brokenChains() {
		if len(broken.list) < 20 {
			out = append(out, auditAsked{broken.list, four.s.Heads, told, impl.Sample{Label: name, Old: told[0]}, four.s.Heads[0], four.s, 1, 0, label})
		}
	}
	for at := range told {
		for _, x := range turnsFor(told[at]) {
			out = append(out, auditAsked{four.s.Heads, four.s.Heads[:at], replied(told, at, x.turn), impl.Sample{Label: label, Old: told[0], New: told[0]}, four.s.Heads[0], s, 2, 3, label})
			out = append(out, auditAsked{four.s.Heads, four.s.Heads, replied(told, at, x.turn), impl.Sample{Label: label, Old: told[2], New: told[1]}, four.s.Heads[0], s, 2, 3, label})
		}
	}
	out = append(out, auditAsked{}, auditAsked{four.s.Heads, four.s.Heads, told, impl.Sample{}, impl.Head{}, s, 1, 4, label})
	return out
}

// roomyReplies: the same replies, each list of them with other things ahead of it and behind it; and whether all of that is as it was.
func roomyReplies(replies []impl.Reply) ([]impl.Reply, func() bool) {
	around := []impl.Reply{{Epoch: 5, Record: by(7, 1, 0)}, {Epoch: -5, Held: true}}
	room := slices.Clone(around)
	var stays []func() bool
	for _, r := range replies {
		given, stay := roomyReply(r)
		room, stays = append(room, given), append(stays, stay)
	}
	room = append(room, around...)
	was := slices.Clone(room)
	stays = append(stays, func() bool {
		return slices.EqualFunc(room, was, func(a impl.Reply, b impl.Reply) bool {
			return sameReply(a, b) && unsafe.SliceData(a.Said.Path) == unsafe.SliceData(b.Said.Path) && unsafe.SliceData(a.Said.Trail.Forks) == unsafe.SliceData(b.Said.Trail.Forks)
		})
	})
	return room[2 : 2+len(replies)], func() bool {
		return !slices.ContainsFunc(stays, func(stays func() bool) bool { return !stays() })
	}
}

// P1: what is handed in is as it was, with the room around it; and that room is not looked at.
func TestP1AuditArgumentsStay(t *testing.T) {
	for _, x := range someAuditsAsked() {
		given := x
		var heads []func() bool
		var sStays, rStays, oldStays, newStays func() bool
		given.trusted = amid(&heads, x.trusted, rooted(1, 1, 0), impl.Head{Epoch: -5})
		given.list = amid(&heads, x.list, rooted(2, 4, 9), impl.Head{Epoch: -6})
		given.s, sStays = roomy(x.s)
		given.replies, rStays = roomyReplies(x.replies)
		given.sample.Old, oldStays = roomyReply(x.sample.Old)
		given.sample.New, newStays = roomyReply(x.sample.New)
		if got, want := given.ask(), x.ask(); got != want {
			t.Fatalf("%+v with room around: %s, not %s", x, got, want)
		}
		// One list for both, and one reply for both, are as they were too.
		given.trusted = given.list
		given.sample.New = given.sample.Old
		given.ask()
		if !heads[0]() || !heads[1]() || !sStays() || !rStays() || !oldStays() || !newStays() {
			t.Fatalf("%+v turned its arguments: %+v", x, given)
		}
	}
}

func sampleMemory(x impl.Sample) []unsafe.Pointer {
	return slices.Concat(replyMemory(x.Old), replyMemory(x.New), labelPlace(impl.Record{Label: x.Label}))
}

// P1: no list and no label of a sample stands where one of an argument does, nor where another one of it does.
func TestP1AuditAnswersAreNew(t *testing.T) {
	sampled, held := 0, 0
	for _, x := range someAuditsAsked() {
		taken := map[unsafe.Pointer]bool{}
		for _, place := range slices.Concat(memoryOf(x.s), sampleMemory(x.sample), labelPlace(impl.Record{Label: x.label})) {
			taken[place] = true
		}
		for _, got := range x.samples() {
			for _, place := range sampleMemory(got.Sample) {
				if taken[place] {
					t.Fatalf("SampleOf %+v shares memory: %+v", x, got)
				}
				taken[place] = true
			}
			if got.Code == impl.OK {
				sampled++
			}
			if got.Sample.Old.Held && len(got.Sample.New.Said.Trail.Forks) > 0 {
				held++
			}
		}
	}
	if sampled < 100 || held < 50 {
		t.Errorf("%d samples, %d with a record alone", sampled, held)
	}
}

// P1: whatever becomes of an answer, or of what was handed in, the other one stays.
func TestP1AuditSpoilt(t *testing.T) {
	for _, x := range someAuditsAsked() {
		given := x.copied()
		want := given.ask()
		samples := given.samples()
		told := fmt.Sprint(samples)
		for _, got := range given.samples() {
			spoilReply(got.Sample.Old)
			spoilReply(got.Sample.New)
		}
		if given.ask() != want || fmt.Sprint(samples) != told || !sameState(given.s, x.s) || !sameSample(given.sample, x.sample) {
			t.Fatalf("%+v: an answer shares with what was handed in, or with another one", x)
		}
		spoilState(given.s)
		spoilReply(given.sample.Old)
		spoilReply(given.sample.New)
		if fmt.Sprint(samples) != told {
			t.Fatalf("%+v: an answer turned with what was handed in", x)
		}
		// The two replies of a sample are two things.
		for _, got := range samples {
			was := fmt.Sprint(got.Sample.New)
			spoilReply(got.Sample.Old)
			if fmt.Sprint(got.Sample.New) != was {
				t.Fatalf("%+v: both replies share", x)
			}
		}
	}
}

// P1: nil and an empty list are the same value.
func TestP1AuditEmptyLists(t *testing.T) {
	emptied := func(r *impl.Reply) {
		if len(r.Said.Path) == 0 {
			r.Said.Path = make([]int64, 0, 5)
		}
		if len(r.Said.Trail.Forks) == 0 {
			r.Said.Trail.Forks = make([]impl.Fork, 0, 5)
		}
	}
	for _, x := range someAuditsAsked() {
		empty := x.copied()
		if len(empty.trusted) == 0 {
			empty.trusted = make([]impl.Head, 0, 5)
		}
		if len(empty.list) == 0 {
			empty.list = make([]impl.Head, 0, 5)
		}
		if len(empty.replies) == 0 {
			empty.replies = make([]impl.Reply, 0, 5)
		}
		for at := range empty.replies {
			emptied(&empty.replies[at])
		}
		emptied(&empty.sample.Old)
		emptied(&empty.sample.New)
		if len(empty.s.New) == 0 {
			empty.s.New = make([]impl.Slot, 0, 5)
		}
		for at := range empty.s.Past {
			if len(empty.s.Past[at].Records) == 0 {
				empty.s.Past[at].Records = make([]impl.Record, 0, 5)
			}
		}
		if got, want := empty.ask(), x.ask(); got != want {
			t.Fatalf("%+v of empty lists: %s, not %s", x, got, want)
		}
	}
}

func TestP1AuditsHangOnArguments(t *testing.T) {
	seeAgain(t, someAuditsAsked())
}

// P1: an answer at every argument, however far from what may be.
func TestP1AuditEveryArgument(t *testing.T) {
	x, label, told := fourWatched()
	heads := x.s.Heads
	s, replies := fourReplies()
	for _, a := range farNumbers {
		for _, b := range farNumbers {
			h := impl.Head{Epoch: a, Phase: b, Old: a, New: b, Prev: a}
			seeAudit(t, []impl.Head{h}, heads)
			seeAudit(t, heads, append(slices.Clone(heads), h))
			seeCut(t, append(slices.Clone(heads), h))
			seeRight(t, h, impl.Sample{Label: label, Old: told[0], New: told[1]})
			seeBoth(t, h, label, told[0], told[1])
			for _, turn := range []func(r *impl.Reply){
				func(r *impl.Reply) { r.Epoch, r.Said.Value = a, b },
				func(r *impl.Reply) { r.Record.Version, r.Record.Owner = a, b },
				func(r *impl.Reply) { r.Said.Trail.Leaf = impl.Slot{Key: a, Value: b} },
			} {
				seeWatch(t, heads, label, replied(told, 2, turn))
				bad := turnedReply(replies[1], turn)
				seeBoth(t, s.Heads[1], keyLabels[77][0], replies[0], bad)
				seeRight(t, s.Heads[1], impl.Sample{Label: keyLabels[77][0], Old: replies[0], New: bad})
			}
		}
		seeSample(t, known(s), a, keyLabels[77][0])
		seeSample(t, known(impl.State{Phase: a, Cursor: a}), 1, label)
		if got := impl.CutOverRight(heads, a); got {
			t.Errorf("CutOverRight at %d", a)
		}
	}
	long := strings.Repeat("a", 1000000)
	million := make([]impl.Head, 1000000)
	wide := impl.Reply{Epoch: 2, Said: impl.Said{Old: true, Path: make([]int64, 1000000)}}
	forked := impl.Reply{Epoch: 2, Said: impl.Said{Trail: impl.Trail{Any: true, Forks: make([]impl.Fork, 1000000)}}}
	if seeAudit(t, million, nil) != impl.ErrMany || seeAudit(t, nil, million) != impl.ErrMany || impl.CutOverRight(million, 5) {
		t.Error("a million heads")
	}
	if seeWatch(t, million, label, nil) != (impl.IntResult{Code: impl.ErrMany}) || seeWatch(t, heads, label, make([]impl.Reply, 1000000)) != (impl.IntResult{Code: impl.ErrMany}) {
		t.Error("a million heads or replies")
	}
	if seeWatch(t, heads, long, told) != (impl.IntResult{Code: impl.ErrMany}) || seeSample(t, known(s), 2, long).Code != impl.ErrMany || seeRight(t, s.Heads[1], impl.Sample{Label: long}) {
		t.Error("a label of a million bytes")
	}
	if got := seeBoth(t, s.Heads[1], keyLabels[200][0], wide, forked); got != (impl.IntResult{Code: impl.ErrProof}) || seeRight(t, s.Heads[1], impl.Sample{Label: keyLabels[200][0], Old: wide, New: forked}) {
		t.Errorf("proofs of a million: %+v", got)
	}
	if seeRight(t, impl.Head{}, impl.Sample{}) || seeBoth(t, impl.Head{}, "", impl.Reply{}, impl.Reply{}) != (impl.IntResult{Code: impl.ErrRange}) || !noSample(seeSample(t, known(impl.State{}), 0, ""), impl.ErrRange) {
		t.Error("nothing at all")
	}
	for _, turn := range []func(s *impl.State){
		func(s *impl.State) { s.Heads = million },
		func(s *impl.State) { s.Heads = nil },
		func(s *impl.State) { s.Past = nil },
		func(s *impl.State) { s.Past[1].Records = make([]impl.Record, 1000000) },
	} {
		bad := known(turnedState(s, turn))
		for _, epoch := range []int64{-1, 0, 1, 2, 3, 1000000, math.MaxInt64} {
			if got := seeSample(t, bad, epoch, keyLabels[77][0]); got.Code == impl.OK {
				t.Errorf("SampleOf of %d = %+v", epoch, got)
			}
		}
	}
}
