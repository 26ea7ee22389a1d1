package tests

import (
	"fmt"
	"math"
	"slices"
	"strings"
	"testing"
	"unsafe"

	"loop.example/g00602/impl"
)

// formsBy, rootBy, replyCode, seenBy and the methods of knownState say over again, in the
// document's words, what chapter 13 asks.
func formsBy(h impl.Head) impl.IntResult {
	if code := headCode(h); code != impl.OK {
		return impl.IntResult{Code: code}
	}
	return impl.IntResult{Value: map[int64]int64{1: 1, 2: 1, 3: 3, 4: 2, 5: 1}[h.Phase]}
}

// rootBy: the root of a tree, and whether a head of that phase has it.
func rootBy(h impl.Head, old bool) (int64, bool) {
	if old {
		return h.Old, h.Phase != impl.PhaseCutOver
	}
	return h.New, h.Phase == impl.PhaseCutOver || h.Phase == impl.PhaseDual
}

func replyCode(r impl.Reply) int64 {
	if r.Epoch <= 0 || r.Epoch >= 11 {
		return impl.ErrRange
	}
	if !r.Held && (r.Record != impl.Record{}) {
		return impl.ErrForm
	}
	if code := recordCode(r.Record); r.Held && code != impl.OK {
		return code
	}
	if code := saidCode(r.Said); code != impl.OK {
		return code
	}
	if r.Said.There && !r.Held || r.Held && !r.Said.There {
		return impl.ErrForm
	}
	if r.Held && r.Said.Value != sumBack(packedBy(r.Record)) {
		return impl.ErrForm
	}
	return impl.OK
}

func seenBy(h impl.Head, label string, r impl.Reply) impl.AnswerResult {
	for _, code := range []int64{headCode(h), labelCode(label), replyCode(r)} {
		if code != impl.OK {
			return impl.AnswerResult{Code: code}
		}
	}
	root, has := rootBy(h, r.Said.Old)
	if r.Epoch != h.Epoch || !has {
		return impl.AnswerResult{Code: impl.ErrState}
	}
	key := keyBy(label)
	if r.Held && keyBy(r.Record.Label) != key {
		return impl.AnswerResult{Code: impl.ErrProof}
	}
	if !isTakenBy(key, r.Said, root) {
		return impl.AnswerResult{Code: impl.ErrProof}
	}
	if r.Held && r.Record.Label == foldedBy(label) {
		return impl.AnswerResult{Answer: impl.Answer{Key: key, There: true, Record: r.Record}}
	}
	return impl.AnswerResult{Answer: impl.Answer{Key: key}}
}

func isTakenBy(key int64, s impl.Said, root int64) bool {
	if s.Old {
		return climbBy(story{key, s.There, s.Value, s.Path}) == impl.IntResult{Value: root}
	}
	return takenBy(key, s.There, s.Value, s.Trail, root)
}

// saidIn: what is so of a key in a directory, by one tree.
func saidIn(d impl.Directory, key int64, old bool) impl.Said {
	if old {
		return storyOf(slotsBy(d), oldLevels(slotsBy(d)), key).said()
	}
	return taleOf(key, trailBy(slotsBy(d), key)).said()
}

// knownState: a state, and its fault, worked out once.
type knownState struct {
	s    impl.State
	code int64
}

func known(s impl.State) knownState {
	return knownState{s, stateCode(s)}
}

func (x knownState) epochCode(epoch int64) int64 {
	if x.code != impl.OK {
		return x.code
	}
	for _, h := range x.s.Heads {
		if h.Epoch == epoch {
			return impl.OK
		}
	}
	return impl.ErrNone
}

func (x knownState) replyTo(epoch int64, label string, old bool) impl.ReplyResult {
	for _, code := range []int64{x.epochCode(epoch), labelCode(label)} {
		if code != impl.OK {
			return impl.ReplyResult{Code: code}
		}
	}
	if _, has := rootBy(x.s.Heads[epoch-1], old); !has {
		return impl.ReplyResult{Code: impl.ErrState}
	}
	d, key := x.s.Past[epoch-1], keyBy(label)
	r := impl.Reply{Epoch: epoch, Said: saidIn(d, key, old)}
	r.Record, r.Held = atKey(d, key)
	return impl.ReplyResult{Reply: r}
}

func (x knownState) askServer(epoch int64, label string, old bool) impl.SeenResult {
	told, again := x.replyTo(epoch, label, old), false
	if told.Code == impl.ErrState {
		told, again = x.replyTo(epoch, label, !old), true
	}
	if told.Code != impl.OK {
		return impl.SeenResult{Code: told.Code}
	}
	seen := seenBy(x.s.Heads[epoch-1], label, told.Reply)
	if seen.Code != impl.OK {
		return impl.SeenResult{Code: seen.Code}
	}
	return impl.SeenResult{Again: again, Answer: seen.Answer}
}

func (x knownState) pastAnswer(epoch int64, label string) impl.AnswerResult {
	if code := x.epochCode(epoch); code != impl.OK {
		return impl.AnswerResult{Code: code}
	}
	return answerBy(x.s.Past[epoch-1], label)
}

func sameReply(a impl.Reply, b impl.Reply) bool {
	same := a.Epoch == b.Epoch && a.Held == b.Held && a.Record == b.Record
	same = same && a.Said.Old == b.Said.Old && a.Said.There == b.Said.There && a.Said.Value == b.Said.Value
	same = same && slices.Equal(a.Said.Path, b.Said.Path)
	return same && a.Said.Trail.Any == b.Said.Trail.Any && a.Said.Trail.Leaf == b.Said.Trail.Leaf && slices.Equal(a.Said.Trail.Forks, b.Said.Trail.Forks)
}

func noReply(got impl.ReplyResult, code int64) bool {
	return got.Code == code && sameReply(got.Reply, impl.Reply{})
}

func replyCopy(r impl.Reply) impl.Reply {
	r.Said.Path, r.Said.Trail.Forks = slices.Clone(r.Said.Path), slices.Clone(r.Said.Trail.Forks)
	return r
}

func turnedReply(r impl.Reply, turn func(r *impl.Reply)) impl.Reply {
	r = replyCopy(r)
	turn(&r)
	return r
}

// seeAsked: what is answered of a label in an epoch, by one tree, is what the words ask; and P14, where it is answered.
func seeAsked(t *testing.T, x knownState, epoch int64, label string, old bool) impl.ReplyResult {
	t.Helper()
	got, want := impl.ReplyTo(x.s, epoch, label, old), x.replyTo(epoch, label, old)
	if got.Code != want.Code || !sameReply(got.Reply, want.Reply) {
		t.Fatalf("ReplyTo(%+v, %d, %q, %v) = %+v, not %+v", x.s, epoch, label, old, got, want)
	}
	seen, wantSeen := impl.AskServer(x.s, epoch, label, old), x.askServer(epoch, label, old)
	if seen != wantSeen {
		t.Fatalf("AskServer(%+v, %d, %q, %v) = %+v, not %+v", x.s, epoch, label, old, seen, wantSeen)
	}
	past, wantPast := impl.PastAnswer(x.s, epoch, label), x.pastAnswer(epoch, label)
	if past != wantPast {
		t.Fatalf("PastAnswer(%+v, %d, %q) = %+v, not %+v", x.s, epoch, label, past, wantPast)
	}
	if got.Code == impl.OK {
		seeReplyTaken(t, x.s, epoch, label, old, got.Reply)
	}
	if past.Code == impl.OK {
		seeOneAnswer(t, x.s, epoch, label, past.Answer)
	}
	return got
}

// seeReplyTaken: P14, of one reply, by what the program itself tells.
func seeReplyTaken(t *testing.T, s impl.State, epoch int64, label string, old bool, r impl.Reply) {
	t.Helper()
	if impl.ReplyFault(r) != impl.OK || r.Epoch != epoch || r.Said.Old != old {
		t.Fatalf("%+v of %q, epoch %d, %v, has the fault %d", r, label, epoch, old, impl.ReplyFault(r))
	}
	h, d := s.Heads[epoch-1], s.Past[epoch-1]
	if seen := impl.SeeReply(h, label, r); seen.Code != impl.OK || seen != impl.AnswerOf(d, label) || seen != impl.PastAnswer(s, epoch, label) {
		t.Fatalf("SeeReply(%+v, %q, %+v) = %+v, not %+v", h, label, r, seen, impl.AnswerOf(d, label))
	}
	key := impl.KeyOf(label).Value
	if found := impl.FindSlot(impl.SlotsOf(d).Slots, key); (found.Code == impl.OK) != r.Held || found.Value != r.Said.Value {
		t.Fatalf("%+v of the key %d, which has %+v", r, key, found)
	}
	if r.Held && impl.LookRecord(d, r.Record.Label) != (impl.RecordResult{Record: r.Record}) {
		t.Fatalf("%+v is held, and not told by %v", r, d)
	}
}

// seeOneAnswer: P14, by whatever tree first, by what the program itself tells.
func seeOneAnswer(t *testing.T, s impl.State, epoch int64, label string, answer impl.Answer) {
	t.Helper()
	forms := impl.FormsOf(s.Heads[epoch-1]).Value
	byOld, byNew := impl.AskServer(s, epoch, label, true), impl.AskServer(s, epoch, label, false)
	if byOld != (impl.SeenResult{Again: forms == 2, Answer: answer}) || byNew != (impl.SeenResult{Again: forms == 1, Answer: answer}) {
		t.Fatalf("%q in epoch %d of %+v: %+v by the old tree first, %+v by the new one, not %+v", label, epoch, s, byOld, byNew, answer)
	}
}

func seeReply(t *testing.T, h impl.Head, label string, r impl.Reply) impl.AnswerResult {
	t.Helper()
	if got, want := impl.ReplyFault(r), replyCode(r); got != want {
		t.Fatalf("ReplyFault(%+v) = %d, not %d", r, got, want)
	}
	got, want := impl.SeeReply(h, label, r), seenBy(h, label, r)
	if got != want {
		t.Fatalf("SeeReply(%+v, %q, %+v) = %+v, not %+v", h, label, r, got, want)
	}
	return got
}

// clientStates: without a fault, in each phase, with heads of one root, of the other one and of both, of none to MaxEpochs epochs.
func clientStates() []impl.State {
	out := append(fewStates(), turnable()...)
	out = append(out, impl.State{Phase: 1},
		stateOf(impl.PhaseIdle, 0, spread(12, 3, 22), 1),
		stateOf(impl.PhaseDual, 256, impl.Directory{}, 3),
		stateOf(impl.PhaseCutOver, 256, directoryAt(3), 4),
		stateOf(impl.PhaseCutOver, 256, spread(12, 3, 22), 1, 1, 2, 2, 3, 5, 3, 3, 4, 4),
		stateOf(impl.PhaseBack, 0, spread(12, 3, 22), 2, 3, 5, 2, 3, 3, 5, 3, 3),
		replayBy(logOf(wholeMove...)).State,
		replayBy(logOf(wholeMove[:17]...)).State,
		replayBy(logOf(fullJournal()...)).State)
	return out
}

// clientLabels: labels that are there, that are not, and whose key another label has, folded and not.
func clientLabels(s impl.State) []string {
	keys := map[int64]bool{0: true, 200: true, 255: true}
	for _, d := range append([]impl.Directory{s.Directory}, s.Past...) {
		for _, r := range d.Records {
			keys[keyBy(r.Label)] = true
		}
	}
	out := []string{"bob", "BOB", "\xc3\xa9", "\xc3\xa9M", "ABCDEFGHIJKL", "~"}
	for key := range keys {
		first, other := keyLabels[key][0], keyLabels[key][1]
		out = append(out, first, strings.ToUpper(first), other, strings.ToUpper(other[:1])+other[1:])
	}
	slices.Sort(out)
	return out
}

func TestFormsOf(t *testing.T) {
	wanted := map[int64]int64{impl.PhaseIdle: 1, impl.PhaseCopying: 1, impl.PhaseDual: 3, impl.PhaseCutOver: 2, impl.PhaseBack: 1}
	for phase, forms := range wanted {
		for epoch := int64(1); epoch <= 10; epoch++ {
			// A root may be 0, and is there by the phase all the same.
			for _, h := range []impl.Head{rooted(epoch, phase, 5), {Epoch: epoch, Phase: phase}, {Epoch: epoch, Phase: phase, Prev: 65520}} {
				if got := impl.FormsOf(h); got != (impl.IntResult{Value: forms}) || got != formsBy(h) {
					t.Errorf("FormsOf(%+v) = %+v, not %d", h, got, forms)
				}
			}
		}
	}
	codes := map[int64]int{}
	for _, phase := range slices.Concat(allPhases, noPhases) {
		for _, old := range slices.Concat(sumEdges, noSums) {
			for _, new := range []int64{-1, 0, 1, 65520, 65521, math.MinInt64} {
				h := impl.Head{Epoch: 1, Phase: phase, Old: old, New: new}
				if got := impl.FormsOf(h); got != formsBy(h) {
					t.Fatalf("FormsOf(%+v) = %+v, not %+v", h, got, formsBy(h))
				}
				codes[formsBy(h).Code]++
			}
		}
		for _, epoch := range noEpochs {
			if h := rooted(epoch, phase, 0); impl.FormsOf(h) != (impl.IntResult{Code: impl.ErrRange}) {
				t.Errorf("FormsOf(%+v) = %+v", h, impl.FormsOf(h))
			}
		}
	}
	for _, code := range []int64{impl.OK, impl.ErrRange, impl.ErrForm} {
		if codes[code] < 10 {
			t.Errorf("code %d seen %d times alone", code, codes[code])
		}
	}
	cases := map[string]struct {
		h    impl.Head
		code int64
	}{
		"nothing":                            {impl.Head{}, impl.ErrRange},
		"an Old root behind the cut":         {impl.Head{Epoch: 1, Phase: impl.PhaseCutOver, Old: 5, New: 6}, impl.ErrForm},
		"a New root that is there too early": {impl.Head{Epoch: 1, Phase: impl.PhaseCopying, Old: 5, New: 6}, impl.ErrForm},
		"both, of the epoch 11":              {impl.Head{Epoch: 11, Phase: impl.PhaseBack, Old: 5, New: 6}, impl.ErrRange},
		"both, with a Prev that is no sum":   {impl.Head{Epoch: 1, Phase: impl.PhaseIdle, New: 6, Prev: 65521}, impl.ErrRange},
	}
	for name, x := range cases {
		if got := impl.FormsOf(x.h); got != (impl.IntResult{Code: x.code}) {
			t.Errorf("%s: FormsOf = %+v, not code %d", name, got, x.code)
		}
	}
}

// By hand: two labels of one key, by both trees.
func TestClientExamples(t *testing.T) {
	rec := by(3, 1, 7)
	first, other := keyLabels[3][0], keyLabels[3][1]
	s := impl.CloseEpoch(impl.NewState().State).State
	s = impl.CloseEpoch(impl.CopySome(impl.StartMove(s).State, 256).State).State
	s = impl.CloseEpoch(impl.UpdateState(s, rec, 7).State).State
	s = impl.CloseEpoch(impl.UpdateState(impl.CutOver(s).State, by(3, 2, 7), 7).State).State
	sum := impl.RecordSum(rec).Value
	var empty []int64
	for level := range int64(8) {
		empty = append(empty, impl.EmptySum(level).Value)
	}
	leaf := impl.Trail{Any: true, Leaf: impl.Slot{Key: 3, Value: sum}}
	cases := map[string]struct {
		epoch int64
		label string
		old   bool
		want  impl.Reply
	}{
		"nothing, by the old tree":                  {1, first, true, impl.Reply{Epoch: 1, Said: impl.Said{Old: true, Path: empty}}},
		"nothing, by a trail of nothing":            {2, first, false, impl.Reply{Epoch: 2}},
		"one, by the old tree":                      {3, first, true, impl.Reply{Epoch: 3, Held: true, Record: rec, Said: impl.Said{Old: true, There: true, Value: sum, Path: empty}}},
		"one, by the new tree":                      {3, first, false, impl.Reply{Epoch: 3, Held: true, Record: rec, Said: impl.Said{There: true, Value: sum, Trail: leaf}}},
		"another label of that key, by the old one": {3, other, true, impl.Reply{Epoch: 3, Held: true, Record: rec, Said: impl.Said{Old: true, There: true, Value: sum, Path: empty}}},
		"another label of that key, by the new one": {3, other, false, impl.Reply{Epoch: 3, Held: true, Record: rec, Said: impl.Said{There: true, Value: sum, Trail: leaf}}},
		"another key, by the new tree":              {3, keyLabels[4][0], false, impl.Reply{Epoch: 3, Said: impl.Said{Trail: leaf}}},
		"the next version, behind the cut":          {4, strings.ToUpper(first), false, impl.Reply{Epoch: 4, Held: true, Record: by(3, 2, 7), Said: impl.Said{There: true, Value: impl.RecordSum(by(3, 2, 7)).Value, Trail: impl.Trail{Any: true, Leaf: impl.Slot{Key: 3, Value: impl.RecordSum(by(3, 2, 7)).Value}}}}},
	}
	for name, x := range cases {
		got := seeAsked(t, known(s), x.epoch, x.label, x.old)
		if got.Code != impl.OK || !sameReply(got.Reply, x.want) {
			t.Errorf("%s: ReplyTo = %+v, not %+v", name, got, x.want)
		}
	}
	there, none := impl.Answer{Key: 3, There: true, Record: rec}, impl.Answer{Key: 3}
	for _, old := range []bool{true, false} {
		for epoch, answer := range map[int64]impl.Answer{1: none, 2: none, 3: there} {
			again := epoch == 1 && !old
			if got := impl.AskServer(s, epoch, first, old); got != (impl.SeenResult{Again: again, Answer: answer}) {
				t.Errorf("AskServer of epoch %d, %v = %+v", epoch, old, got)
			}
			if got := impl.AskServer(s, epoch, other, old); got != (impl.SeenResult{Again: again, Answer: none}) {
				t.Errorf("AskServer of epoch %d, %v, of another label = %+v", epoch, old, got)
			}
		}
		if got := impl.AskServer(s, 4, first, old); got.Again != old || got.Answer.Record.Version != 2 {
			t.Errorf("AskServer behind the cut, %v = %+v", old, got)
		}
	}
	if got := impl.PastAnswer(s, 3, strings.ToUpper(first)); got != (impl.AnswerResult{Answer: there}) {
		t.Errorf("PastAnswer of the version that was = %+v", got)
	}
}

// P14: each epoch that there is, each label, by both trees.
func TestP14EachEpoch(t *testing.T) {
	seen := map[string]int{}
	for _, s := range clientStates() {
		x := known(s)
		if x.code != impl.OK {
			t.Fatalf("%+v has the fault %d", s, x.code)
		}
		n := int64(len(s.Heads))
		for _, label := range clientLabels(s) {
			for epoch := int64(0); epoch <= n+1; epoch++ {
				for _, old := range []bool{true, false} {
					got := seeAsked(t, x, epoch, label, old)
					seen[fmt.Sprint("code ", got.Code)]++
					if got.Code != impl.OK {
						continue
					}
					tree := map[bool]string{true: ", old", false: ", new"}[old]
					r := got.Reply
					switch {
					case !r.Held:
						seen["not held"+tree]++
					case r.Record.Label == label:
						seen["there"+tree]++
					case r.Record.Label == strings.ToLower(label):
						seen["there, not folded"+tree]++
					default:
						seen["another label"+tree]++
					}
					if !impl.SameDirectories(s.Past[epoch-1], s.Directory) {
						seen["of another time"+tree]++
					}
					if len(s.Past[epoch-1].Records) == 0 {
						seen["of nothing"+tree]++
					}
				}
			}
		}
	}
	for _, what := range []string{"not held", "there", "there, not folded", "another label", "of another time", "of nothing"} {
		for _, tree := range []string{", old", ", new"} {
			if seen[what+tree] < 10 {
				t.Errorf("%s%s: seen %d times alone: %v", what, tree, seen[what+tree], seen)
			}
		}
	}
	if seen["code 4"] < 10 || seen["code 10"] < 10 || seen["code 0"] < 1000 {
		t.Errorf("%v", seen)
	}
}

// P14: each of the 256 keys, of directories of nothing, of one and of MaxSlots records.
func TestP14EachKey(t *testing.T) {
	for _, d := range []impl.Directory{{}, directoryAt(77), spread(12, 3, 22), spread(12, 0, 1)} {
		s := stateOf(impl.PhaseDual, 256, d)
		s.Heads, s.Past = []impl.Head{headForBy(d, 1, impl.PhaseDual, 0).Head}, []impl.Directory{d}
		x := known(s)
		for key := range int64(256) {
			for _, old := range []bool{true, false} {
				_, held := atKey(d, key)
				for at, label := range keyLabels[key][:2] {
					got := seeAsked(t, x, 1, label, old)
					if got.Code != impl.OK || got.Reply.Held != held || got.Reply.Said.There != held {
						t.Fatalf("ReplyTo of the key %d = %+v", key, got)
					}
					if answer := impl.AskServer(s, 1, label, old).Answer; answer.Key != key || answer.There != (held && at == 0) {
						t.Fatalf("AskServer of the key %d = %+v", key, answer)
					}
				}
			}
		}
	}
}

// P14 along histories of all kinds of calls: what was asked of an epoch is answered so ever after.
func TestP14Histories(t *testing.T) {
	asked, forms := 0, map[int64]int{}
	for walk := range uint32(80) {
		dice := walk*2654435761 + 777
		roll := func(n int64) int64 {
			dice = dice*1664525 + 1013904223
			return int64(dice>>8) % n
		}
		s := impl.NewState().State
		answers := map[string]impl.Answer{}
		for range 40 {
			did := rolled(s, roll).ask(s)
			if did.Code != impl.OK {
				continue
			}
			s = did.State
			if len(s.Heads) == 0 {
				continue
			}
			epoch := roll(int64(len(s.Heads))) + 1
			label := keyLabels[roll(8)*255/7][roll(5)/4]
			if roll(2) == 0 {
				label = strings.ToUpper(label)
			}
			name := fmt.Sprint(epoch, strings.ToLower(label))
			got := impl.AskServer(s, epoch, label, roll(2) == 0)
			if was, known := answers[name]; got.Code != impl.OK || known && was != got.Answer {
				t.Fatalf("AskServer(%+v, %d, %q) = %+v, and was %+v", s, epoch, label, got, was)
			}
			answers[name] = got.Answer
			forms[impl.FormsOf(s.Heads[epoch-1]).Value]++
			asked++
			if roll(8) == 0 {
				seeAsked(t, known(s), epoch, label, roll(2) == 0)
			}
		}
	}
	if asked < 200 || forms[1] < 20 || forms[2] < 20 || forms[3] < 20 {
		t.Errorf("%d asked alone: %v", asked, forms)
	}
}

// Epochs at their edges and far from them: 0, 1, as many as there are, one more, MaxEpochs and one more.
func TestClientEpochs(t *testing.T) {
	for _, s := range clientStates() {
		x := known(s)
		n := int64(len(s.Heads))
		for _, epoch := range slices.Concat(farNumbers, noEpochs, []int64{n - 1, n, n + 1, 9, 10, 11, 20, n + 4294967296, -n, -9223372036854775807}) {
			for _, label := range []string{keyLabels[3][0], "BOB", "a b"} {
				for _, old := range []bool{true, false} {
					got := seeAsked(t, x, epoch, label, old)
					if there := epoch >= 1 && epoch <= n; there == (got.Code == impl.ErrNone) {
						t.Fatalf("ReplyTo of the epoch %d of %d = %+v", epoch, n, got)
					}
				}
			}
		}
	}
}

// Labels with and without a fault, in each form.
func TestClientLabels(t *testing.T) {
	s := stateOf(impl.PhaseCutOver, 256, spread(12, 3, 22), 1, 3, 4)
	x := known(s)
	for _, label := range slices.Concat(goodLabels, notFolded, noLabels) {
		for epoch := int64(1); epoch <= 3; epoch++ {
			for _, old := range []bool{true, false} {
				seeAsked(t, x, epoch, label, old)
				r := x.replyTo(epoch, keyLabels[3][0], epoch != 3).Reply
				seeReply(t, s.Heads[epoch-1], label, r)
			}
		}
	}
	// Labels that have records, at both ends of what may be a label.
	for _, label := range goodLabels {
		r := impl.Record{Label: foldedBy(label), Version: 1, Owner: ownerBy(5), Pin: 9}
		s := impl.CloseEpoch(impl.UpdateState(impl.NewState().State, r, 5).State).State
		got := seeAsked(t, known(s), 1, label, true)
		if got.Code != impl.OK || got.Reply.Record != r || impl.AskServer(s, 1, label, false).Answer.Record != r {
			t.Errorf("ReplyTo of %q = %+v", label, got)
		}
	}
}

// The fault of the state, then that there is no head, then the label, then that the head has no root for it.
func TestClientOrderOfCodes(t *testing.T) {
	s := stateOf(impl.PhaseCutOver, 256, directoryAt(3, 77, 252), 1, 3, 4)
	bob := keyLabels[3][0]
	cases := map[string]struct {
		epoch             int64
		label             string
		old               bool
		reply, seen, past int64
	}{
		"all is right":                            {1, bob, true, impl.OK, impl.OK, impl.OK},
		"the tree that is not there yet":          {1, bob, false, impl.ErrState, impl.OK, impl.OK},
		"both trees, by the old one":              {2, bob, true, impl.OK, impl.OK, impl.OK},
		"both trees, by the new one":              {2, bob, false, impl.OK, impl.OK, impl.OK},
		"the tree that is gone":                   {3, bob, true, impl.ErrState, impl.OK, impl.OK},
		"the tree that is left":                   {3, bob, false, impl.OK, impl.OK, impl.OK},
		"no head":                                 {4, bob, true, impl.ErrNone, impl.ErrNone, impl.ErrNone},
		"the epoch 0":                             {0, bob, false, impl.ErrNone, impl.ErrNone, impl.ErrNone},
		"no head, no label":                       {4, "", true, impl.ErrNone, impl.ErrNone, impl.ErrNone},
		"the epoch 0, a blank":                    {0, "a b", false, impl.ErrNone, impl.ErrNone, impl.ErrNone},
		"no label":                                {2, "", true, impl.ErrForm, impl.ErrForm, impl.ErrForm},
		"a label of 13 bytes":                     {2, "abcdefghijklm", false, impl.ErrMany, impl.ErrMany, impl.ErrMany},
		"a label with a blank":                    {2, "a b", true, impl.ErrText, impl.ErrText, impl.ErrText},
		"no label, and a tree that is not there":  {1, "", false, impl.ErrForm, impl.ErrForm, impl.ErrForm},
		"a blank, and a tree that is gone":        {3, "a b", true, impl.ErrText, impl.ErrText, impl.ErrText},
		"13 bytes, and a tree that is not there":  {1, "abcdefghijklm", false, impl.ErrMany, impl.ErrMany, impl.ErrMany},
		"a tree that is gone, a label of nobody":  {3, keyLabels[200][0], true, impl.ErrState, impl.OK, impl.OK},
		"a tree that is gone, a key of another's": {3, keyLabels[3][1], true, impl.ErrState, impl.OK, impl.OK},
	}
	for name, x := range cases {
		got := seeAsked(t, known(s), x.epoch, x.label, x.old)
		if got.Code != x.reply || x.reply != impl.OK && !noReply(got, x.reply) {
			t.Errorf("%s: ReplyTo = %+v, not code %d", name, got, x.reply)
		}
		if seen := impl.AskServer(s, x.epoch, x.label, x.old); seen.Code != x.seen || seen.Again != (x.reply == impl.ErrState) || x.seen != impl.OK && seen != (impl.SeenResult{Code: x.seen}) {
			t.Errorf("%s: AskServer = %+v, not code %d", name, seen, x.seen)
		}
		if past := impl.PastAnswer(s, x.epoch, x.label); past.Code != x.past || x.past != impl.OK && past != (impl.AnswerResult{Code: x.past}) {
			t.Errorf("%s: PastAnswer = %+v, not code %d", name, past, x.past)
		}
	}
}

// A state with a fault has its code told, whatever else is wrong; with ErrState too, which no other tree mends.
func TestClientStateFaults(t *testing.T) {
	codes := map[int64]int{}
	for _, s := range turnable() {
		for _, x := range stateTurns() {
			bad := turnedState(s, x.turn)
			k := known(bad)
			if k.code != x.code {
				t.Fatalf("%s: the words said over again tell %d, not %d", x.name, k.code, x.code)
			}
			for _, epoch := range []int64{0, 1, 2, 3, 4, 11} {
				for _, label := range []string{keyLabels[3][0], "", "a b"} {
					for _, old := range []bool{true, false} {
						if got := seeAsked(t, k, epoch, label, old); !noReply(got, x.code) {
							t.Fatalf("%s: ReplyTo = %+v, not code %d", x.name, got, x.code)
						}
						if got := impl.AskServer(bad, epoch, label, old); got != (impl.SeenResult{Code: x.code}) {
							t.Fatalf("%s: AskServer = %+v, not code %d", x.name, got, x.code)
						}
					}
					if got := impl.PastAnswer(bad, epoch, label); got != (impl.AnswerResult{Code: x.code}) {
						t.Fatalf("%s: PastAnswer = %+v, not code %d", x.name, got, x.code)
					}
				}
			}
			codes[x.code]++
		}
	}
	for _, code := range []int64{impl.ErrForm, impl.ErrMany, impl.ErrRange, impl.ErrText, impl.ErrProof, impl.ErrState} {
		if codes[code] == 0 {
			t.Errorf("code %d was not seen: %v", code, codes)
		}
	}
}

// fourReplies: of a state of both trees, in epoch 2: by the old tree and by the new one, held and not.
func fourReplies() (impl.State, []impl.Reply) {
	s := stateOf(impl.PhaseDual, 256, directoryAt(3, 77, 252))
	d := directoryAt(3, 77, 252)
	first := headForBy(directoryAt(77), 1, impl.PhaseDual, 0).Head
	s.Heads = []impl.Head{first, headForBy(d, 2, impl.PhaseDual, sumBack(headPacked(first))).Head}
	s.Past = []impl.Directory{directoryAt(77), d}
	x := known(s)
	var out []impl.Reply
	for _, key := range []int64{77, 200} {
		for _, old := range []bool{true, false} {
			out = append(out, x.replyTo(2, keyLabels[key][0], old).Reply)
		}
	}
	return s, out
}

// replyTurn: one thing of a reply that is not so, and its place in the order of codes.
type replyTurn struct {
	name string
	rank int
	code int64
	turn func(r *impl.Reply)
}

// otherTree: something that has its place in what is said by the other tree alone.
func otherTree(s *impl.Said) {
	if s.Old {
		s.Trail.Any = true
	} else {
		s.Path = []int64{5}
	}
}

// heldTurns: for replies that hold a record.
func heldTurns() []replyTurn {
	return []replyTurn{
		{"the epoch 0", 0, impl.ErrRange, func(r *impl.Reply) { r.Epoch = 0 }},
		{"the epoch 11", 0, impl.ErrRange, func(r *impl.Reply) { r.Epoch = 11 }},
		{"not held, with a record", 1, impl.ErrForm, func(r *impl.Reply) { r.Held = false }},
		{"no label", 2, impl.ErrForm, func(r *impl.Reply) { r.Record.Label = "" }},
		{"a label of 13 bytes", 2, impl.ErrMany, func(r *impl.Reply) { r.Record.Label = "abcdefghijklm" }},
		{"a label with a blank", 2, impl.ErrText, func(r *impl.Reply) { r.Record.Label = "a b" }},
		{"a label that is not folded", 2, impl.ErrForm, func(r *impl.Reply) { r.Record.Label = strings.ToUpper(r.Record.Label) }},
		{"the version 0", 2, impl.ErrRange, func(r *impl.Reply) { r.Record.Version = 0 }},
		{"the version 1000", 2, impl.ErrRange, func(r *impl.Reply) { r.Record.Version = 1000 }},
		{"an owner that is no sum", 2, impl.ErrRange, func(r *impl.Reply) { r.Record.Owner = 65521 }},
		{"a pin that is no sum", 2, impl.ErrRange, func(r *impl.Reply) { r.Record.Pin = -1 }},
		{"held, with no record", 2, impl.ErrForm, func(r *impl.Reply) { r.Record = impl.Record{} }},
		{"something of the other tree", 3, impl.ErrForm, func(r *impl.Reply) { otherTree(&r.Said) }},
		{"said by the other tree", 3, impl.ErrForm, func(r *impl.Reply) { r.Said.Old = !r.Said.Old }},
		{"a value that is no sum", 4, impl.ErrRange, func(r *impl.Reply) { r.Said.Value = 65521 }},
		{"a value below 0", 4, impl.ErrRange, func(r *impl.Reply) { r.Said.Value = -1 }},
		{"not there, with a value", 4, impl.ErrRange, func(r *impl.Reply) { r.Said.There, r.Said.Value = false, 7 }},
		{"not there, and held", 5, impl.ErrForm, func(r *impl.Reply) { r.Said.There, r.Said.Value = false, 0 }},
		{"another value", 6, impl.ErrForm, func(r *impl.Reply) { r.Said.Value = (r.Said.Value + 1) % 65521 }},
		{"another version", 6, impl.ErrForm, func(r *impl.Reply) { r.Record.Version = 900 }},
		{"another pin", 6, impl.ErrForm, func(r *impl.Reply) { r.Record.Pin++ }},
		{"another owner", 6, impl.ErrForm, func(r *impl.Reply) { r.Record.Owner++ }},
		{"another label of that key", 6, impl.ErrForm, func(r *impl.Reply) { r.Record.Label = keyLabels[keyBy(r.Record.Label)][2] }},
	}
}

// bareTurns: for replies that hold none.
func bareTurns() []replyTurn {
	return []replyTurn{
		{"the epoch -1", 0, impl.ErrRange, func(r *impl.Reply) { r.Epoch = -1 }},
		{"the epoch 11", 0, impl.ErrRange, func(r *impl.Reply) { r.Epoch = 11 }},
		{"a label", 1, impl.ErrForm, func(r *impl.Reply) { r.Held, r.Record.Label = false, "a b" }},
		{"a version", 1, impl.ErrForm, func(r *impl.Reply) { r.Held, r.Record.Version = false, 1 }},
		{"an owner", 1, impl.ErrForm, func(r *impl.Reply) { r.Held, r.Record.Owner = false, -1 }},
		{"a pin", 1, impl.ErrForm, func(r *impl.Reply) { r.Held, r.Record.Pin = false, 65521 }},
		{"held, with no record", 2, impl.ErrForm, func(r *impl.Reply) { r.Held, r.Record = true, impl.Record{} }},
		{"held, with a blank", 2, impl.ErrText, func(r *impl.Reply) { r.Held, r.Record = true, impl.Record{Label: "a b"} }},
		{"held, of the version 0", 2, impl.ErrRange, func(r *impl.Reply) { r.Held, r.Record = true, impl.Record{Label: "bob"} }},
		{"something of the other tree", 3, impl.ErrForm, func(r *impl.Reply) { otherTree(&r.Said) }},
		{"a value", 4, impl.ErrRange, func(r *impl.Reply) { r.Said.There, r.Said.Value = false, 1 }},
		{"a value below 0", 4, impl.ErrRange, func(r *impl.Reply) { r.Said.Value = -1 }},
		{"there, with no sum", 4, impl.ErrRange, func(r *impl.Reply) { r.Said.There, r.Said.Value = true, 65521 }},
		{"there, and not held", 5, impl.ErrForm, func(r *impl.Reply) { r.Said.There, r.Said.Value = true, 5 }},
		{"there with 0, and not held", 5, impl.ErrForm, func(r *impl.Reply) { r.Said.There, r.Said.Value = true, 0 }},
	}
}

func turnsFor(r impl.Reply) []replyTurn {
	if r.Held {
		return heldTurns()
	}
	return bareTurns()
}

// Each code alone, and each two of them at once: the one that is asked first tells.
func TestReplyFaultCodes(t *testing.T) {
	s, replies := fourReplies()
	pairs := 0
	for _, r := range replies {
		if got := impl.ReplyFault(r); got != impl.OK {
			t.Fatalf("ReplyFault(%+v) = %d", r, got)
		}
		for _, a := range turnsFor(r) {
			bad := turnedReply(r, a.turn)
			if got := impl.ReplyFault(bad); got != a.code || replyCode(bad) != a.code {
				t.Errorf("%s: ReplyFault(%+v) = %d, not %d (the words said over again tell %d)", a.name, bad, got, a.code, replyCode(bad))
			}
			if got := seeReply(t, s.Heads[1], keyLabels[77][0], bad); got != (impl.AnswerResult{Code: a.code}) {
				t.Errorf("%s: SeeReply = %+v, not code %d", a.name, got, a.code)
			}
			for _, b := range turnsFor(r) {
				if a.rank >= b.rank {
					continue
				}
				both := turnedReply(turnedReply(r, b.turn), a.turn)
				if got := impl.ReplyFault(both); got != a.code || replyCode(both) != a.code {
					t.Errorf("%s, %s: ReplyFault(%+v) = %d, not %d (the words said over again tell %d)", a.name, b.name, both, got, a.code, replyCode(both))
				}
				pairs++
			}
		}
	}
	if pairs < 300 {
		t.Errorf("%d pairs alone", pairs)
	}
}

// Held with There and without, each way, with each kind of value.
func TestReplyFaultHeldAndThere(t *testing.T) {
	r := by(77, 5, 1)
	sum := sumBack(packedBy(r))
	for _, old := range []bool{true, false} {
		for _, held := range []bool{true, false} {
			for _, there := range []bool{true, false} {
				for _, value := range []int64{0, sum, sum + 1, -1, 65520, 65521} {
					x := impl.Reply{Epoch: 1, Held: held, Said: impl.Said{Old: old, There: there, Value: value}}
					if held {
						x.Record = r
					}
					code := int64(impl.ErrForm)
					switch {
					case there && (value == -1 || value == 65521) || !there && value != 0:
						code = impl.ErrRange
					case held && there && value == sum || !held && !there:
						code = impl.OK
					}
					if got := impl.ReplyFault(x); got != code || replyCode(x) != code {
						t.Errorf("ReplyFault(%+v) = %d, not %d", x, got, code)
					}
				}
			}
		}
	}
	// What is asked of a path and of a trail is asked where they are taken: a reply may have any.
	for name, s := range map[string]impl.Said{
		"no path":              {Old: true},
		"a path of one":        {Old: true, Path: []int64{5}},
		"a path of no sums":    {Old: true, Path: slices.Repeat([]int64{-1}, 8)},
		"a trail of no slot":   {Trail: impl.Trail{Any: true, Leaf: impl.Slot{Key: -1, Value: 70000}}},
		"a trail that falls":   {Trail: anyTrail(impl.Slot{}, 5, 5, 3, 3)},
		"forks, and no leaf":   {Trail: impl.Trail{Forks: forksOf(1, 1)}},
		"a trail of nine":      {Trail: impl.Trail{Any: true, Forks: make([]impl.Fork, 9)}},
		"a trail with nothing": {},
	} {
		if got := impl.ReplyFault(impl.Reply{Epoch: 10, Said: s}); got != impl.OK {
			t.Errorf("%s: ReplyFault = %d", name, got)
		}
		for _, h := range []impl.Head{rooted(10, impl.PhaseDual, 0), {Epoch: 10, Phase: impl.PhaseDual}} {
			if got := seeReply(t, h, "bob", impl.Reply{Epoch: 10, Said: s}); got != (impl.AnswerResult{Code: impl.ErrProof}) {
				t.Errorf("%s: SeeReply = %+v", name, got)
			}
		}
	}
}

func TestReplyFaultEpochs(t *testing.T) {
	_, replies := fourReplies()
	for _, r := range append(replies, impl.Reply{}) {
		for epoch := int64(1); epoch <= 10; epoch++ {
			if got := impl.ReplyFault(turnedReply(r, func(r *impl.Reply) { r.Epoch = epoch })); got != impl.OK {
				t.Errorf("ReplyFault of the epoch %d = %d", epoch, got)
			}
		}
		for _, epoch := range noEpochs {
			if got := impl.ReplyFault(turnedReply(r, func(r *impl.Reply) { r.Epoch = epoch })); got != impl.ErrRange {
				t.Errorf("ReplyFault of the epoch %d = %d", epoch, got)
			}
		}
	}
	for _, r := range someRecords {
		for _, value := range append(slices.Clone(sumEdges), sumBack(packedBy(r))) {
			x := impl.Reply{Epoch: 1, Held: true, Record: r, Said: impl.Said{There: true, Value: value}}
			if got := impl.ReplyFault(x); got != replyCode(x) {
				t.Errorf("ReplyFault(%+v) = %d, not %d", x, got, replyCode(x))
			}
		}
	}
}

// seeing: what SeeReply is handed.
type seeing struct {
	h     impl.Head
	label string
	r     impl.Reply
}

type seeingTurn struct {
	name string
	rank int
	code int64
	turn func(x *seeing)
}

// noRootFor: a head that has no root for what is said.
func noRootFor(x *seeing) {
	if x.r.Said.Old {
		x.h.Phase, x.h.Old = impl.PhaseCutOver, 0
	} else {
		x.h.Phase, x.h.New = impl.PhaseBack, 0
	}
}

// otherRoots: a head of the same phase, of another directory.
func otherRoots(x *seeing) {
	other := headForBy(directoryAt(9), 2, x.h.Phase, 0).Head
	x.h.Old, x.h.New = other.Old, other.New
}

// otherProof: one sum less is right, or one more.
func otherProof(x *seeing) {
	if x.r.Said.Old {
		x.r.Said.Path[4] = (x.r.Said.Path[4] + 1) % 65521
	} else {
		x.r.Said.Trail.Forks[0].Other = (x.r.Said.Trail.Forks[0].Other + 1) % 65521
	}
}

func seeingTurns() []seeingTurn {
	out := []seeingTurn{
		{"a head of the epoch 0", 0, impl.ErrRange, func(x *seeing) { x.h.Epoch = 0 }},
		{"a head of the phase 6", 0, impl.ErrRange, func(x *seeing) { x.h.Phase = 6 }},
		{"a root that has to be 0", 0, impl.ErrForm, func(x *seeing) { x.h.Phase, x.h.Old, x.h.New = impl.PhaseIdle, 5, 5 }},
		{"no label", 1, impl.ErrForm, func(x *seeing) { x.label = "" }},
		{"a label of 13 bytes", 1, impl.ErrMany, func(x *seeing) { x.label = "abcdefghijklm" }},
		{"a label with a blank", 1, impl.ErrText, func(x *seeing) { x.label = "a b" }},
		{"a reply of the epoch 11", 2, impl.ErrRange, func(x *seeing) { x.r.Epoch = 11 }},
		{"something of the other tree", 2, impl.ErrForm, func(x *seeing) { otherTree(&x.r.Said) }},
		{"a value that is no sum", 2, impl.ErrRange, func(x *seeing) { x.r.Said.Value = 65521 }},
		{"a reply of another epoch", 3, impl.ErrState, func(x *seeing) { x.r.Epoch = 1 }},
		{"a head of another epoch", 3, impl.ErrState, func(x *seeing) { x.h.Epoch = 3 }},
		{"a head without the root", 3, impl.ErrState, noRootFor},
		{"a label of another key", 4, impl.ErrProof, func(x *seeing) { x.label = keyLabels[78][0] }},
		{"another proof", 5, impl.ErrProof, otherProof},
		{"other roots", 5, impl.ErrProof, otherRoots},
	}
	return out
}

// The head's fault, the label's, the reply's, then ErrState, then ErrProof: each alone, and each two at once.
func TestSeeReplyCodes(t *testing.T) {
	s, replies := fourReplies()
	pairs := 0
	for at, r := range replies {
		good := func() seeing {
			return seeing{s.Heads[1], keyLabels[[]int64{77, 77, 200, 200}[at]][0], replyCopy(r)}
		}
		x := good()
		if got := seeReply(t, x.h, x.label, x.r); got.Code != impl.OK || got.Answer.There != r.Held {
			t.Fatalf("SeeReply of %+v = %+v", x, got)
		}
		for _, a := range seeingTurns() {
			x := good()
			a.turn(&x)
			if got := seeReply(t, x.h, x.label, x.r); got != (impl.AnswerResult{Code: a.code}) {
				t.Errorf("%s: SeeReply(%+v) = %+v, not code %d", a.name, x, got, a.code)
			}
			for _, b := range seeingTurns() {
				if a.rank >= b.rank {
					continue
				}
				x := good()
				b.turn(&x)
				a.turn(&x)
				if got := seeReply(t, x.h, x.label, x.r); got != (impl.AnswerResult{Code: a.code}) {
					t.Errorf("%s, %s: SeeReply(%+v) = %+v, not code %d", a.name, b.name, x, got, a.code)
				}
				pairs++
			}
		}
	}
	if pairs < 300 {
		t.Errorf("%d pairs alone", pairs)
	}
}

// fits: a record in the place of what is held, with the value that it has to have.
func fits(r *impl.Reply, record impl.Record) {
	r.Held, r.Record = true, record
	r.Said.There, r.Said.Value = true, sumBack(packedBy(record))
}

// denied: the reply says that there is nothing.
func denied(r *impl.Reply) {
	r.Held, r.Record, r.Said.There, r.Said.Value = false, impl.Record{}, false, 0
}

// Replies that say something else, and have no fault: what is said is not shown.
func TestSeeReplyTurned(t *testing.T) {
	s, replies := fourReplies()
	d := s.Past[1]
	for at, r := range replies {
		key := []int64{77, 77, 200, 200}[at]
		label, old := keyLabels[key][0], r.Said.Old
		is, _ := atKey(d, key)
		if !r.Held {
			is = by(key, 1, 5)
		}
		turns := map[string]func(r *impl.Reply){
			"another version": func(r *impl.Reply) { is := is; is.Version++; fits(r, is) },
			"another owner":   func(r *impl.Reply) { is := is; is.Owner++; fits(r, is) },
			"another pin":     func(r *impl.Reply) { is := is; is.Pin++; fits(r, is) },
			"another label of that key": func(r *impl.Reply) {
				is := is
				is.Label = keyLabels[key][1]
				fits(r, is)
			},
			"a record of another key":          func(r *impl.Reply) { fits(r, d.Records[0]) },
			"a record and the proof of it":     func(r *impl.Reply) { fits(r, d.Records[0]); r.Said = saidIn(d, 3, old) },
			"a record of a key that is not so": func(r *impl.Reply) { fits(r, by(key^1, 1, 1)) },
			"the proof of another key":         func(r *impl.Reply) { r.Said = saidIn(d, 3, old); r.Said.There, r.Said.Value = r.Held, valueOf(*r) },
			"the proof of another directory": func(r *impl.Reply) {
				r.Said = saidIn(directoryAt(9, 10, 100), key, old)
				r.Said.There, r.Said.Value = r.Held, valueOf(*r)
			},
			"the proof of nothing":                 func(r *impl.Reply) { r.Said = impl.Said{Old: old, There: r.Held, Value: valueOf(*r)} },
			"by the other tree, without its proof": func(r *impl.Reply) { r.Said = impl.Said{Old: !old, There: r.Held, Value: valueOf(*r)} },
		}
		if r.Held {
			turns["denied"] = denied
			turns["denied, by a trail or path of nothing"] = func(r *impl.Reply) { denied(r); r.Said = impl.Said{Old: old} }
		} else {
			turns["there, with a record"] = func(r *impl.Reply) { fits(r, is) }
		}
		for name, turn := range turns {
			bad := turnedReply(r, turn)
			if code := impl.ReplyFault(bad); code != impl.OK {
				t.Fatalf("%s: ReplyFault(%+v) = %d", name, bad, code)
			}
			if got := seeReply(t, s.Heads[1], label, bad); got != (impl.AnswerResult{Code: impl.ErrProof}) {
				t.Errorf("%s: SeeReply(%+v) = %+v", name, bad, got)
			}
		}
		// The same is shown by the other tree.
		bad := turnedReply(r, func(r *impl.Reply) { r.Said = saidIn(d, key, !old) })
		if got := seeReply(t, s.Heads[1], label, bad); got != impl.AnswerOf(d, label) {
			t.Errorf("by the other tree: SeeReply(%+v) = %+v", bad, got)
		}
	}
}

func valueOf(r impl.Reply) int64 {
	if !r.Held {
		return 0
	}
	return sumBack(packedBy(r.Record))
}

// pathTurns: each sum of a path turned, one less, one more, and none.
func pathTurns(r impl.Reply) []impl.Reply {
	turns := []func(r *impl.Reply){
		func(r *impl.Reply) { r.Said.Path = nil },
		func(r *impl.Reply) { r.Said.Path = r.Said.Path[1:] },
		func(r *impl.Reply) { r.Said.Path = append(r.Said.Path, 0) },
		func(r *impl.Reply) { r.Said.Path = append(r.Said.Path, r.Said.Path...) },
		func(r *impl.Reply) { slices.Reverse(r.Said.Path) },
	}
	for at := range r.Said.Path {
		for _, by := range []int64{1, -1, 256, 65521, -65521, 4294967296} {
			turns = append(turns, func(r *impl.Reply) { r.Said.Path[at] += by })
		}
		turns = append(turns, func(r *impl.Reply) { r.Said.Path = r.Said.Path[:at] })
	}
	var out []impl.Reply
	for _, turn := range turns {
		out = append(out, turnedReply(r, turn))
	}
	return out
}

// trailTurns: the leaf, each fork and how many there are turned.
func trailTurns(r impl.Reply) []impl.Reply {
	turns := []func(x *impl.Trail){
		func(x *impl.Trail) { x.Any = false },
		func(x *impl.Trail) { *x = impl.Trail{} },
		func(x *impl.Trail) { x.Leaf.Key ^= 1 },
		func(x *impl.Trail) { x.Leaf.Key += 256 },
		func(x *impl.Trail) { x.Leaf.Value++ },
		func(x *impl.Trail) { x.Leaf.Value += 65521 },
		func(x *impl.Trail) { x.Forks = append(x.Forks, impl.Fork{Bit: 7}) },
		func(x *impl.Trail) { x.Forks = append(x.Forks, x.Forks...) },
		func(x *impl.Trail) { x.Forks = make([]impl.Fork, 9) },
		func(x *impl.Trail) { slices.Reverse(x.Forks) },
	}
	for at := range r.Said.Trail.Forks {
		for _, by := range []int64{1, -1, 256, 65521, -65521} {
			turns = append(turns, func(x *impl.Trail) { x.Forks[at].Other += by }, func(x *impl.Trail) { x.Forks[at].Bit += by })
		}
		turns = append(turns, func(x *impl.Trail) { x.Forks = x.Forks[:at] }, func(x *impl.Trail) { x.Forks = slices.Delete(x.Forks, at, at+1) })
	}
	var out []impl.Reply
	for _, turn := range turns {
		out = append(out, turnedReply(r, func(r *impl.Reply) { turn(&r.Said.Trail) }))
	}
	return out
}

// Proofs of replies turned, one thing alone: not taken.
func TestSeeReplyProofsTurned(t *testing.T) {
	turned := 0
	for _, s := range []impl.State{clientStates()[8], replayBy(logOf(wholeMove...)).State, stateOf(impl.PhaseDual, 256, impl.Directory{}, 3, 3, 3, 3, 3, 3, 3, 3, 3, 3)} {
		x := known(s)
		for epoch := int64(1); epoch <= int64(len(s.Heads)); epoch++ {
			h := s.Heads[epoch-1]
			for _, label := range []string{keyLabels[3][0], keyLabels[3][1], keyLabels[25][0], keyLabels[252][0], keyLabels[200][0]} {
				for _, old := range []bool{true, false} {
					told := x.replyTo(epoch, label, old)
					if told.Code != impl.OK {
						continue
					}
					all := trailTurns(told.Reply)
					if old {
						all = pathTurns(told.Reply)
					}
					for _, bad := range all {
						got := seeReply(t, h, label, bad)
						same := sameReply(bad, told.Reply)
						if !same && bad.Said.Trail.Any && got.Code == impl.OK {
							t.Fatalf("SeeReply(%+v, %q, %+v) = %+v", h, label, bad, got)
						}
						if old && !same && !slices.Equal(bad.Said.Path, told.Reply.Said.Path) && got.Code != impl.ErrProof {
							t.Fatalf("SeeReply(%+v, %q, %+v) = %+v", h, label, bad, got)
						}
						turned++
					}
				}
			}
		}
	}
	if turned < 2000 {
		t.Errorf("%d turned alone", turned)
	}
}

// Each reply held against each head and each label: of another epoch, of another label, of another key.
func TestSeeReplyOfOthers(t *testing.T) {
	codes := map[int64]int{}
	seen := map[string]int{}
	for _, s := range []impl.State{stateOf(impl.PhaseCutOver, 256, directoryAt(3), 1, 2, 3, 5, 3, 4, 4), replayBy(logOf(wholeMove...)).State} {
		x := known(s)
		labels := []string{keyLabels[3][0], strings.ToUpper(keyLabels[3][0]), keyLabels[3][1], keyLabels[25][0], keyLabels[252][0], keyLabels[252][1], keyLabels[4][0]}
		for epoch := int64(1); epoch <= int64(len(s.Heads)); epoch++ {
			for _, asked := range labels {
				for _, old := range []bool{true, false} {
					told := x.replyTo(epoch, asked, old)
					if told.Code != impl.OK {
						continue
					}
					for _, h := range s.Heads {
						for _, label := range labels {
							got := seeReply(t, h, label, told.Reply)
							codes[got.Code]++
							switch {
							case h.Epoch != epoch && got != (impl.AnswerResult{Code: impl.ErrState}):
								t.Fatalf("a reply of the epoch %d by %+v: %+v", epoch, h, got)
							case h.Epoch == epoch && keyBy(label) == keyBy(asked):
								// Whoever of that key asks, the reply is taken, and tells each label its own.
								if got != impl.AnswerOf(s.Past[epoch-1], label) {
									t.Fatalf("a reply to %q for %q: %+v", asked, label, got)
								}
								if label != asked && told.Reply.Held {
									seen[fmt.Sprint("another label of that key, there: ", got.Answer.There)]++
								}
							case h.Epoch == epoch && told.Reply.Held && got != (impl.AnswerResult{Code: impl.ErrProof}):
								t.Fatalf("a reply to %q for %q: %+v", asked, label, got)
							}
							// With the epoch of that head it is a story of another directory.
							moved := turnedReply(told.Reply, func(r *impl.Reply) { r.Epoch = h.Epoch })
							got = seeReply(t, h, label, moved)
							codes[got.Code]++
							if got.Code == impl.OK && got != impl.AnswerOf(s.Past[h.Epoch-1], label) {
								t.Fatalf("a reply of the epoch %d, told as one of %d: %+v", epoch, h.Epoch, got)
							}
						}
					}
				}
			}
		}
	}
	for _, code := range []int64{impl.OK, impl.ErrState, impl.ErrProof} {
		if codes[code] < 100 {
			t.Errorf("code %d seen %d times alone", code, codes[code])
		}
	}
	for _, is := range []bool{true, false} {
		if name := fmt.Sprint("another label of that key, there: ", is); seen[name] < 5 {
			t.Errorf("%s: seen %d times alone", name, seen[name])
		}
	}
}

// A head has a root by its phase, not by whether it is 0: a proof that leads to 0 is taken by the one alone that has it.
func TestSeeReplyRootsOfNought(t *testing.T) {
	label := keyLabels[77][0]
	told := 0
	for _, lie := range []story{{key: 77}, {key: 77, there: true, value: sumBack(packedBy(by(77, 1, 5)))}} {
		lie.path = slices.Repeat([]int64{9}, 8)
		for _, side := range sidesTo(77>>7, sumBack(piecesBy(lie)[7]), 0) {
			r := impl.Reply{Epoch: 1, Said: lie.with(7, side).said()}
			if lie.there {
				fits(&r, by(77, 1, 5))
			}
			for _, phase := range allPhases {
				got := seeReply(t, impl.Head{Epoch: 1, Phase: phase}, label, r)
				want := int64(impl.OK)
				if phase == impl.PhaseCutOver {
					want = impl.ErrState
				}
				if got.Code != want || got.Answer.There != (lie.there && want == impl.OK) {
					t.Errorf("a path to 0 in the phase %d: %+v", phase, got)
				}
				told++
			}
		}
	}
	for _, leaf := range []impl.Slot{{Key: 77, Value: sumBack(packedBy(by(77, 1, 5)))}, {Key: 3, Value: 5}} {
		for bit := range int64(8) {
			for _, fork := range forksTo(77, bit, newRootBy([]impl.Slot{leaf}), 0) {
				r := impl.Reply{Epoch: 1, Said: taleOf(77, impl.Trail{Any: true, Leaf: leaf, Forks: []impl.Fork{fork}}).said()}
				if r.Said.There {
					fits(&r, by(77, 1, 5))
				}
				for _, phase := range allPhases {
					got := seeReply(t, impl.Head{Epoch: 1, Phase: phase}, label, r)
					want := int64(impl.ErrState)
					if phase == impl.PhaseCutOver || phase == impl.PhaseDual {
						want = impl.OK
					}
					if got.Code != want || got.Answer.There != (r.Held && want == impl.OK) {
						t.Errorf("a trail to 0 in the phase %d: %+v", phase, got)
					}
					told++
				}
			}
		}
	}
	if told < 50 {
		t.Errorf("%d told alone", told)
	}
}

// Who cheats, and is taken, has a clash to show: other records of one sum, other proofs of one root.
func TestSeeReplyForged(t *testing.T) {
	s, replies := fourReplies()
	h, d := s.Heads[1], s.Past[1]
	// One more in the low byte of Owner is as much as 139 more in the high one of Pin.
	is := replies[0].Record
	twin := is
	twin.Owner, twin.Pin = is.Owner-1, is.Pin+139*256
	if twin.Pin > 65520 {
		twin.Owner, twin.Pin = is.Owner+1, is.Pin-139*256
	}
	if !impl.IsClash(impl.Clash{Found: true, A: packedBy(is), B: packedBy(twin)}) {
		t.Fatalf("%v and %v have two sums", is, twin)
	}
	for _, r := range replies[:2] {
		got := seeReply(t, h, keyLabels[77][0], turnedReply(r, func(r *impl.Reply) { r.Record = twin }))
		if got != (impl.AnswerResult{Answer: impl.Answer{Key: 77, There: true, Record: twin}}) {
			t.Errorf("a record of the same sum: %+v", got)
		}
	}
	taken := map[bool]int{}
	slots := slotsBy(d)
	liar := by(200, 1, 5)
	value := sumBack(packedBy(liar))
	var lies []impl.Said
	for level := range 8 {
		for _, x := range forged(oldLevels(slots), story{key: 200, there: true, value: value}, level) {
			lies = append(lies, x.said())
		}
	}
	for bit := range int64(8) {
		leaf := impl.Slot{Key: 200, Value: value}
		for _, fork := range forksTo(200, bit, newRootBy([]impl.Slot{leaf}), h.New) {
			lies = append(lies, impl.Said{There: true, Value: value, Trail: impl.Trail{Any: true, Leaf: leaf, Forks: []impl.Fork{fork}}})
		}
	}
	for _, lie := range lies {
		r := impl.Reply{Epoch: 2, Held: true, Record: liar, Said: lie}
		if got := seeReply(t, h, liar.Label, r); got != (impl.AnswerResult{Answer: impl.Answer{Key: 200, There: true, Record: liar}}) {
			t.Fatalf("SeeReply(%+v) = %+v", r, got)
		}
		if got := seeReply(t, h, keyLabels[200][1], r); got != (impl.AnswerResult{Answer: impl.Answer{Key: 200}}) {
			t.Fatalf("SeeReply(%+v) of another label = %+v", r, got)
		}
		for _, honest := range replies[2:] {
			if both := impl.BothClash(slots, 200, lie, honest.Said); both.Code != impl.OK || !impl.IsClash(both.Clash) {
				t.Fatalf("%+v is taken, and has no clash: %+v", lie, both)
			}
		}
		taken[lie.Old]++
	}
	if taken[true] < 3 || taken[false] < 3 {
		t.Errorf("%v taken alone", taken)
	}
}

// pinnedTo: records of a label that have that sum.
func pinnedTo(label string, target int64) []impl.Record {
	var out []impl.Record
	for owner := int64(0); len(out) < 3; owner++ {
		r := impl.Record{Label: label, Version: 1, Owner: owner}
		pins := numbersTo(target, func(pin int64) int64 {
			r.Pin = pin
			return sumBack(packedBy(r))
		})
		for _, pin := range pins {
			r.Pin = pin
			out = append(out, r)
		}
	}
	return out
}

// A record may have the sum 0: held and not there is no form for it all the same.
func TestReplyFaultSumOfNought(t *testing.T) {
	for _, record := range pinnedTo(keyLabels[77][0], 0) {
		if impl.RecordSum(record) != (impl.IntResult{}) {
			t.Fatalf("RecordSum(%+v) = %+v", record, impl.RecordSum(record))
		}
		d := impl.Directory{Records: []impl.Record{record}}
		for _, old := range []bool{true, false} {
			r := impl.Reply{Epoch: 1, Held: true, Record: record, Said: saidIn(d, 77, old)}
			h := headForBy(d, 1, impl.PhaseDual, 0).Head
			if got := seeReply(t, h, record.Label, r); got != (impl.AnswerResult{Answer: impl.Answer{Key: 77, There: true, Record: record}}) {
				t.Errorf("a record of the sum 0: SeeReply = %+v", got)
			}
			for _, turn := range []func(r *impl.Reply){
				func(r *impl.Reply) { r.Said.There = false },
				func(r *impl.Reply) { r.Held, r.Record = false, impl.Record{} },
				func(r *impl.Reply) { r.Said.Value = 1 },
			} {
				bad := turnedReply(r, turn)
				if got := impl.ReplyFault(bad); got != impl.ErrForm {
					t.Errorf("ReplyFault(%+v) = %d", bad, got)
				}
				seeReply(t, h, record.Label, bad)
			}
		}
	}
}

// A record of another key that has the sum of what the key has: the tree would take it, and it is not of that key.
func TestSeeReplyRecordOfAnotherKey(t *testing.T) {
	s, replies := fourReplies()
	for _, r := range replies[:2] {
		for _, key := range []int64{76, 78, 3, 200} {
			for _, record := range pinnedTo(keyLabels[key][0], r.Said.Value) {
				bad := turnedReply(r, func(r *impl.Reply) { r.Record = record })
				if impl.ReplyFault(bad) != impl.OK || !isTakenBy(77, bad.Said, map[bool]int64{true: s.Heads[1].Old, false: s.Heads[1].New}[bad.Said.Old]) {
					t.Fatalf("%+v has the fault %d, or is not taken", bad, impl.ReplyFault(bad))
				}
				for _, label := range []string{keyLabels[77][0], record.Label} {
					if got := seeReply(t, s.Heads[1], label, bad); got != (impl.AnswerResult{Code: impl.ErrProof}) {
						t.Errorf("a record of the key %d by %q: %+v", key, label, got)
					}
				}
			}
		}
		// One of another label of that key is taken, and is nothing to who asks for this one.
		for _, record := range pinnedTo(keyLabels[77][1], r.Said.Value) {
			bad := turnedReply(r, func(r *impl.Reply) { r.Record = record })
			if got := seeReply(t, s.Heads[1], keyLabels[77][0], bad); got != (impl.AnswerResult{Answer: impl.Answer{Key: 77}}) {
				t.Errorf("a record of another label: %+v", got)
			}
		}
	}
}

// clientAsked: one call of each function of the chapter.
type clientAsked struct {
	s     impl.State
	epoch int64
	label string
	old   bool
	h     impl.Head
	r     impl.Reply
}

func (x clientAsked) replies() []impl.ReplyResult {
	return []impl.ReplyResult{impl.ReplyTo(x.s, x.epoch, x.label, x.old), impl.ReplyTo(x.s, x.epoch, x.label, !x.old)}
}

func (x clientAsked) answers() []impl.AnswerResult {
	seen := impl.AskServer(x.s, x.epoch, x.label, x.old)
	return []impl.AnswerResult{impl.SeeReply(x.h, x.label, x.r), {Code: seen.Code, Answer: seen.Answer}, impl.PastAnswer(x.s, x.epoch, x.label)}
}

func (x clientAsked) ask() string {
	return fmt.Sprint(x.replies(), x.answers(), impl.AskServer(x.s, x.epoch, x.label, !x.old), impl.ReplyFault(x.r), impl.FormsOf(x.h))
}

func someClientsAsked() []clientAsked {
	var out []clientAsked
	for _, s := range clientStates() {
		n := int64(len(s.Heads))
		x := known(s)
		for epoch := int64(0); epoch <= n+1; epoch += 2 {
			h := impl.Head{}
			if epoch >= 1 && epoch <= n {
				h = s.Heads[epoch-1]
			}
			for at, label := range []string{keyLabels[3][0], strings.ToUpper(keyLabels[3][0]), keyLabels[3][1], keyLabels[200][0], "a b"} {
				old := at%2 == 0
				out = append(out, clientAsked{s, epoch, label, old, h, x.replyTo(epoch, label, old).Reply})
			}
		}
	}
	good, replies := fourReplies()
	for _, r := range replies {
		for _, x := range turnsFor(r) {
			out = append(out, clientAsked{good, 2, keyLabels[77][0], r.Said.Old, good.Heads[1], turnedReply(r, x.turn)})
		}
		out = append(out, clientAsked{good, 2, strings.ToUpper(keyLabels[77][0]), r.Said.Old, good.Heads[1], r}, clientAsked{good, 1, keyLabels[77][0], r.Said.Old, good.Heads[0], r})
	}
	for _, x := range stateTurns() {
		out = append(out, clientAsked{turnedState(turnable()[2], x.turn), 2, keyLabels[3][0], true, good.Heads[1], replies[1]})
	}
	return out
}

// roomyReply: the same reply, each list of it with other things ahead of it and behind it; and whether all of that is as it was.
func roomyReply(r impl.Reply) (impl.Reply, func() bool) {
	var stays []func() bool
	r.Said.Path = amid(&stays, r.Said.Path, 70000, 6)
	r.Said.Trail.Forks = amid(&stays, r.Said.Trail.Forks, forksOf(-9, 70000, 3, 5)...)
	return r, func() bool {
		return !slices.ContainsFunc(stays, func(stays func() bool) bool { return !stays() })
	}
}

// P1: what is handed in is as it was, with the room around it; and that room is not looked at.
func TestP1ClientArgumentsStay(t *testing.T) {
	for _, x := range someClientsAsked() {
		given := x
		var sStays, rStays func() bool
		given.s, sStays = roomy(x.s)
		given.r, rStays = roomyReply(x.r)
		if got, want := given.ask(), x.ask(); got != want {
			t.Fatalf("%+v with room around: %s, not %s", x, got, want)
		}
		if !sStays() || !rStays() {
			t.Fatalf("%+v turned its arguments: %+v", x, given)
		}
	}
}

func replyMemory(r impl.Reply) []unsafe.Pointer {
	return slices.Concat(placesOf(r.Said.Path), placesOf(r.Said.Trail.Forks), labelPlace(r.Record))
}

// P1: no list and no label of an answer stands where one of an argument does, nor where another one of it does.
func TestP1ClientAnswersAreNew(t *testing.T) {
	replied, answered := 0, 0
	for _, x := range someClientsAsked() {
		taken := map[unsafe.Pointer]bool{}
		for _, place := range slices.Concat(memoryOf(x.s), replyMemory(x.r), labelPlace(impl.Record{Label: x.label})) {
			taken[place] = true
		}
		see := func(what string, memory []unsafe.Pointer) {
			t.Helper()
			for _, place := range memory {
				if taken[place] {
					t.Fatalf("%s of %+v shares memory", what, x)
				}
				taken[place] = true
			}
		}
		for _, got := range x.replies() {
			see("ReplyTo", replyMemory(got.Reply))
			if got.Reply.Held {
				replied++
			}
		}
		for _, got := range x.answers() {
			see("SeeReply, AskServer or PastAnswer", labelPlace(got.Answer.Record))
			if got.Answer.There {
				answered++
			}
		}
	}
	if replied < 100 || answered < 100 {
		t.Errorf("%d records in replies and %d in answers alone", replied, answered)
	}
}

func spoilReply(r impl.Reply) {
	path, forks := r.Said.Path[:cap(r.Said.Path)], r.Said.Trail.Forks[:cap(r.Said.Trail.Forks)]
	for at := range path {
		path[at] = -5
	}
	for at := range forks {
		forks[at] = impl.Fork{Bit: -5, Other: -5}
	}
}

// P1: whatever becomes of an answer, or of what was handed in, the other one stays.
func TestP1ClientSpoilt(t *testing.T) {
	for _, x := range someClientsAsked() {
		given := x
		given.s, given.r = stateCopy(x.s), replyCopy(x.r)
		want := given.ask()
		replies, answers := given.replies(), given.answers()
		told := func() string { return fmt.Sprint(replies, answers) }
		was := told()
		for _, got := range given.replies() {
			spoilReply(got.Reply)
		}
		if given.ask() != want || told() != was || !sameState(given.s, x.s) || !sameReply(given.r, x.r) {
			t.Fatalf("%+v: an answer shares with what was handed in, or with another one", x)
		}
		spoilState(given.s)
		spoilReply(given.r)
		if told() != was {
			t.Fatalf("%+v: an answer turned with what was handed in", x)
		}
	}
}

// P1: nil and an empty list are the same value.
func TestP1ClientEmptyLists(t *testing.T) {
	for _, x := range someClientsAsked() {
		empty := x
		empty.s, empty.r = stateCopy(x.s), replyCopy(x.r)
		if len(empty.r.Said.Path) == 0 {
			empty.r.Said.Path = make([]int64, 0, 5)
		}
		if len(empty.r.Said.Trail.Forks) == 0 {
			empty.r.Said.Trail.Forks = make([]impl.Fork, 0, 5)
		}
		if len(empty.s.New) == 0 {
			empty.s.New = make([]impl.Slot, 0, 5)
		}
		for at := range empty.s.Past {
			if len(empty.s.Past[at].Records) == 0 {
				empty.s.Past[at].Records = make([]impl.Record, 0, 5)
			}
		}
		if got, want := empty.ask(), x.ask(); got != want {
			t.Fatalf("%+v of empty lists: %s, not %s", x, got, want)
		}
	}
}

func TestP1ClientsHangOnArguments(t *testing.T) {
	seeAgain(t, someClientsAsked())
}

// P1: an answer at every argument, however far from what may be.
func TestP1ClientEveryArgument(t *testing.T) {
	s, replies := fourReplies()
	x := known(s)
	for _, a := range farNumbers {
		for _, b := range farNumbers {
			for _, r := range replies {
				seeReply(t, s.Heads[1], keyLabels[77][0], turnedReply(r, func(r *impl.Reply) { r.Epoch, r.Said.Value = a, b }))
				seeReply(t, s.Heads[1], keyLabels[77][0], turnedReply(r, func(r *impl.Reply) { r.Record.Version, r.Record.Pin = a, b }))
				seeReply(t, s.Heads[1], keyLabels[77][0], turnedReply(r, func(r *impl.Reply) { r.Said.Trail.Leaf = impl.Slot{Key: a, Value: b} }))
				seeReply(t, s.Heads[1], keyLabels[77][0], turnedReply(r, func(r *impl.Reply) { r.Said.Trail.Forks = forksOf(a, b) }))
				seeReply(t, impl.Head{Epoch: 2, Phase: 3, Old: a, New: b}, keyLabels[77][0], r)
				seeReply(t, impl.Head{Epoch: a, Phase: b, Prev: a}, keyLabels[77][0], r)
			}
			h := impl.Head{Epoch: a, Phase: b}
			if got := impl.FormsOf(h); got != formsBy(h) {
				t.Fatalf("FormsOf(%+v) = %+v", h, got)
			}
		}
		seeAsked(t, x, a, keyLabels[77][0], true)
		seeAsked(t, known(impl.State{Phase: a, Cursor: a}), 1, "bob", false)
	}
	long := strings.Repeat("a", 1000000)
	seeAsked(t, x, 1, long, true)
	for _, old := range []bool{true, false} {
		for _, held := range []bool{true, false} {
			for name, r := range map[string]impl.Reply{
				"a path of a million":        {Epoch: 2, Held: held, Said: impl.Said{Old: old, There: held, Path: make([]int64, 1000000)}},
				"forks of a million":         {Epoch: 2, Held: held, Said: impl.Said{Old: old, There: held, Trail: impl.Trail{Any: true, Forks: make([]impl.Fork, 1000000)}}},
				"forks of a million alone":   {Epoch: 2, Held: held, Said: impl.Said{Old: old, There: held, Trail: impl.Trail{Forks: make([]impl.Fork, 1000000)}}},
				"a label of a million bytes": {Epoch: 2, Held: held, Record: impl.Record{Label: long, Version: 1}, Said: impl.Said{Old: old, There: held}},
				"nothing":                    {},
			} {
				if got := seeReply(t, s.Heads[1], keyLabels[200][0], r); got.Code == impl.OK {
					t.Errorf("%s: SeeReply = %+v", name, got)
				}
				seeReply(t, impl.Head{}, "", r)
			}
		}
	}
	for _, turn := range []func(s *impl.State){
		func(s *impl.State) { s.Heads = make([]impl.Head, 1000000) },
		func(s *impl.State) { s.Past = make([]impl.Directory, 1000000) },
		func(s *impl.State) { s.Heads = nil },
		func(s *impl.State) { s.Past = nil },
		func(s *impl.State) { s.Past[1].Records = make([]impl.Record, 1000000) },
	} {
		bad := known(turnedState(s, turn))
		for _, epoch := range []int64{-1, 0, 1, 2, 3, 1000000, math.MaxInt64} {
			for _, old := range []bool{true, false} {
				if got := seeAsked(t, bad, epoch, keyLabels[77][0], old); got.Code == impl.OK {
					t.Errorf("ReplyTo of %d = %+v", epoch, got)
				}
			}
		}
	}
}
