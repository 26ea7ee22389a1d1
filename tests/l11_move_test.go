package tests

import (
	"fmt"
	"math"
	"slices"
	"strings"
	"testing"
	"unsafe"

	"loop.example/g00602/impl"
)

// stateCode, doing.code, doing.wanted and needBy say over again, in the document's words, what
// chapter 11 asks; slots are copied key by key there, and steps are counted one by one.
func stateCode(s impl.State) int64 {
	if s.Phase <= 0 || s.Phase >= 6 {
		return impl.ErrRange
	}
	if code := directoryCode(s.Directory); code != impl.OK {
		return code
	}
	if !isMovedSo(s) {
		return impl.ErrForm
	}
	if code := chainCode(s.Heads); code != impl.OK {
		return code
	}
	if len(s.Past) != len(s.Heads) {
		return impl.ErrMany
	}
	last := int64(impl.PhaseIdle)
	for at, d := range s.Past {
		if code := directoryCode(d); code != impl.OK {
			return code
		}
		h := s.Heads[at]
		if meant := headForBy(d, h.Epoch, h.Phase, h.Prev).Head; h.Old != meant.Old || h.New != meant.New {
			return impl.ErrProof
		}
		last = h.Phase
	}
	if !mayFollowBy(last, s.Phase) {
		return impl.ErrState
	}
	return impl.OK
}

func isMovedSo(s impl.State) bool {
	switch s.Phase {
	case impl.PhaseIdle, impl.PhaseBack:
		return s.Cursor == 0 && len(s.New) == 0
	case impl.PhaseCopying:
		return s.Cursor > -1 && s.Cursor < 256 && slices.Equal(s.New, slotsBelow(s.Directory, s.Cursor))
	}
	return s.Cursor == 256 && slices.Equal(s.New, slotsBy(s.Directory))
}

func slotsBelow(d impl.Directory, cursor int64) []impl.Slot {
	var out []impl.Slot
	for _, s := range slotsBy(d) {
		if s.Key < cursor {
			out = append(out, s)
		}
	}
	return out
}

// doing: a call of one of the functions that lead from state to state.
type doing struct {
	what   string
	r      impl.Record
	secret int64
	n      int64
}

func (o doing) ask(s impl.State) impl.StateResult {
	switch o.what {
	case "update":
		return impl.UpdateState(s, o.r, o.secret)
	case "start":
		return impl.StartMove(s)
	case "copy":
		return impl.CopySome(s, o.n)
	case "back":
		return impl.RollBack(s)
	case "over":
		return impl.CutOver(s)
	}
	return impl.CloseEpoch(s)
}

var phasesFor = map[string][]int64{
	"start": {impl.PhaseIdle, impl.PhaseBack},
	"copy":  {impl.PhaseCopying},
	"back":  {impl.PhaseCopying, impl.PhaseDual},
	"over":  {impl.PhaseDual},
}

func (o doing) code(s impl.State) int64 {
	if code := stateCode(s); code != impl.OK {
		return code
	}
	if phases, some := phasesFor[o.what]; some && !slices.Contains(phases, s.Phase) {
		return impl.ErrState
	}
	switch {
	case o.what == "update":
		return updateCode(s.Directory, o.r, o.secret)
	case o.what == "copy" && (o.n <= 0 || o.n >= 257):
		return impl.ErrRange
	case o.what == "close" && len(s.Heads) == 10:
		return impl.ErrFull
	}
	return impl.OK
}

func (o doing) wanted(s impl.State) impl.StateResult {
	if code := o.code(s); code != impl.OK {
		return impl.StateResult{Code: code}
	}
	out := stateCopy(s)
	switch o.what {
	case "update":
		out.Directory = updateBy(s.Directory, o.r, o.secret).Directory
		out.New = slotsBelow(out.Directory, s.Cursor)
	case "start":
		out.Phase, out.Cursor = impl.PhaseCopying, 0
	case "copy":
		all := slotsBy(s.Directory)
		for range o.n {
			if slot, there := slotBy(all, out.Cursor); there {
				out.New = append(out.New, slot)
			}
			out.Cursor++
			if out.Cursor == 256 {
				out.Phase = impl.PhaseDual
				break
			}
		}
	case "back":
		out.Phase, out.Cursor, out.New = impl.PhaseBack, 0, nil
	case "over":
		out.Phase = impl.PhaseCutOver
	case "close":
		prev := int64(0)
		if len(s.Heads) > 0 {
			prev = sumBack(headPacked(s.Heads[len(s.Heads)-1]))
		}
		out.Heads = append(out.Heads, headForBy(s.Directory, int64(len(s.Heads)+1), s.Phase, prev).Head)
		out.Past = append(out.Past, impl.Directory{Records: slices.Clone(s.Directory.Records)})
	}
	return impl.StateResult{State: out}
}

func needBy(s impl.State, n int64) impl.IntResult {
	if code := (doing{what: "copy", n: n}).code(s); code != impl.OK {
		return impl.IntResult{Code: code}
	}
	return impl.IntResult{Value: stepsFrom(s.Cursor, n)}
}

func stepsFrom(cursor int64, n int64) int64 {
	steps := int64(0)
	for ; cursor < 256; cursor += n {
		steps++
	}
	return steps
}

func stateCopy(s impl.State) impl.State {
	s.Directory = impl.Directory{Records: slices.Clone(s.Directory.Records)}
	s.New, s.Heads, s.Past = slices.Clone(s.New), slices.Clone(s.Heads), slices.Clone(s.Past)
	for at, d := range s.Past {
		s.Past[at] = impl.Directory{Records: slices.Clone(d.Records)}
	}
	return s
}

func turnedState(s impl.State, turn func(s *impl.State)) impl.State {
	s = stateCopy(s)
	turn(&s)
	return s
}

func sameState(a impl.State, b impl.State) bool {
	same := a.Phase == b.Phase && a.Cursor == b.Cursor && slices.Equal(a.Directory.Records, b.Directory.Records)
	same = same && slices.Equal(a.New, b.New) && slices.Equal(a.Heads, b.Heads) && len(a.Past) == len(b.Past)
	for at := range a.Past {
		same = same && slices.Equal(a.Past[at].Records, b.Past[at].Records)
	}
	return same
}

func noState(got impl.StateResult, code int64) bool {
	return got.Code == code && sameState(got.State, impl.State{})
}

// historied: heads of these phases, and the directories that they were of, of one record more each.
func historied(phases ...int64) ([]impl.Head, []impl.Directory) {
	var heads []impl.Head
	var past []impl.Directory
	prev := int64(0)
	for at, phase := range phases {
		d := spread(int64(at), 3, 22)
		h := headForBy(d, int64(at)+1, phase, prev).Head
		heads, past = append(heads, h), append(past, d)
		prev = sumBack(headPacked(h))
	}
	return heads, past
}

// stateOf: New are the slots below the cursor, whatever that is; behind it stand epochs of these phases.
func stateOf(phase int64, cursor int64, d impl.Directory, phases ...int64) impl.State {
	s := impl.State{Phase: phase, Cursor: cursor, Directory: d, New: slotsBelow(d, cursor)}
	s.Heads, s.Past = historied(phases...)
	return s
}

var cursorsIn = map[int64][]int64{
	impl.PhaseIdle:    {0},
	impl.PhaseCopying: {0, 1, 2, 3, 4, 100, 128, 254, 255},
	impl.PhaseDual:    {256},
	impl.PhaseCutOver: {256},
	impl.PhaseBack:    {0},
}

func moveDirectories() []impl.Directory {
	return []impl.Directory{{}, directoryAt(0), directoryAt(255), directoryAt(0, 255), directoryAt(3, 77, 252), spread(12, 0, 1), spread(12, 244, 1), spread(12, 3, 22)}
}

// someStates: of each phase, at the edges of its cursor, of none to MaxSlots records, behind none to MaxEpochs heads.
func someStates() []impl.State {
	var out []impl.State
	for _, phase := range allPhases {
		histories := [][]int64{nil, {1}, {phase}, {1, 1, phase, phase}, {1, 1, 1, 1, 1, 1, 1, 1, phase}, {1, 1, 1, 1, 1, 1, 1, 1, 1, phase}, {1, 1}}
		for _, cursor := range cursorsIn[phase] {
			for _, d := range moveDirectories() {
				out = append(out, stateOf(phase, cursor, d, histories[len(out)%len(histories)]...))
			}
		}
	}
	return out
}

// fewStates: one of each phase, with records below its cursor and above it, behind two epochs.
func fewStates() []impl.State {
	var out []impl.State
	for _, phase := range allPhases {
		cursor := cursorsIn[phase][len(cursorsIn[phase])/2]
		out = append(out, stateOf(phase, cursor, directoryAt(3, 77, 252), 1, phase))
	}
	return out
}

var someN = []int64{math.MinInt64, -4294967295, -256, -1, 0, 1, 2, 100, 255, 256, 257, 258, 512, 65537, 4294967297, math.MaxInt64 - 255, math.MaxInt64}

// doingsFor: all that may be done with a state, and much that may not.
func doingsFor(s impl.State) []doing {
	out := []doing{{what: "start"}, {what: "back"}, {what: "over"}, {what: "close"}}
	for _, n := range someN {
		out = append(out, doing{what: "copy", n: n})
	}
	for _, key := range []int64{0, s.Cursor - 1, s.Cursor, s.Cursor + 1, 255} {
		if key >= 0 && key <= 255 {
			out = append(out, doing{what: "update", r: by(key, 1, 9), secret: 9})
		}
	}
	for at, r := range s.Directory.Records {
		next := r
		next.Version++
		next.Pin = 65520 - r.Pin
		secret := secretOf(keyBy(r.Label))
		out = append(out, doing{what: "update", r: next, secret: secret})
		if at%4 == 0 {
			taken := impl.Record{Label: keyLabels[keyBy(r.Label)][1], Version: 1, Owner: ownerBy(9)}
			out = append(out, doing{what: "update", r: next, secret: secret + 1}, doing{what: "update", r: r, secret: secret}, doing{what: "update", r: taken, secret: 9})
		}
	}
	return append(out, doing{what: "update"}, doing{what: "update", r: by(9, 1, 9), secret: 1000}, doing{what: "update", r: impl.Record{Label: "A b", Version: 1}, secret: -1})
}

// seeDone: what is answered is what the words ask; and P12, where it is done.
func seeDone(t *testing.T, s impl.State, o doing) impl.StateResult {
	t.Helper()
	got, want := o.ask(s), o.wanted(s)
	if got.Code != want.Code || !sameState(got.State, want.State) {
		t.Fatalf("%+v of %+v = %+v, not %+v", o, s, got, want)
	}
	if got.Code == impl.OK {
		seeMoved(t, s, o, got.State)
	}
	return got
}

// seeMoved: P12, by what the program itself tells.
func seeMoved(t *testing.T, was impl.State, o doing, now impl.State) {
	t.Helper()
	if impl.StateFault(now) != impl.OK || impl.SameStates(was, now) || !impl.SameStates(now, stateCopy(now)) {
		t.Fatalf("%+v of %+v: %+v, of the fault %d", o, was, now, impl.StateFault(now))
	}
	seeNewSlots(t, now)
	if !impl.MayFollow(was.Phase, now.Phase) || was.Phase == impl.PhaseCutOver && now.Phase != impl.PhaseCutOver {
		t.Fatalf("%+v leads from the phase %d to %d", o, was.Phase, now.Phase)
	}
	if o.what != "update" && !impl.SameDirectories(was.Directory, now.Directory) {
		t.Fatalf("%+v turned the directory: %v, then %v", o, was.Directory, now.Directory)
	}
	if o.what == "update" && (was.Phase != now.Phase || was.Cursor != now.Cursor) {
		t.Fatalf("%+v moved: %+v, then %+v", o, was, now)
	}
	if o.what == "close" {
		seeClosed(t, was, now)
	} else if !slices.Equal(was.Heads, now.Heads) || !slices.EqualFunc(was.Past, now.Past, impl.SameDirectories) {
		t.Fatalf("%+v turned what was: %+v, then %+v", o, was, now)
	}
}

// seeNewSlots: the slot of each record that was copied, as it is by now, and of no other one.
func seeNewSlots(t *testing.T, s impl.State) {
	t.Helper()
	copied := 0
	for _, r := range s.Directory.Records {
		key := impl.KeyOf(r.Label).Value
		want := impl.IntResult{Code: impl.ErrNone}
		if key < s.Cursor {
			want = impl.RecordSum(r)
			copied++
		}
		if got := impl.FindSlot(s.New, key); got != want {
			t.Fatalf("%v of %+v has the slot %+v, not %+v", r, s, got, want)
		}
	}
	if len(s.New) != copied {
		t.Fatalf("%d new slots of %+v, not %d", len(s.New), s, copied)
	}
}

func seeClosed(t *testing.T, was impl.State, now impl.State) {
	t.Helper()
	n, prev := len(was.Heads), int64(0)
	if n > 0 {
		prev = impl.HeadSum(was.Heads[n-1]).Value
	}
	if len(now.Heads) != n+1 || len(now.Past) != n+1 || !slices.Equal(now.Heads[:n], was.Heads) || !slices.EqualFunc(now.Past[:n], was.Past, impl.SameDirectories) {
		t.Fatalf("%+v was closed as %+v", was, now)
	}
	if impl.HeadFor(was.Directory, int64(n)+1, was.Phase, prev) != (impl.HeadResult{Head: now.Heads[n]}) || !impl.SameDirectories(now.Past[n], was.Directory) {
		t.Fatalf("%+v was closed by %+v, of %v", was, now.Heads[n], now.Past[n])
	}
	h := now.Heads[n]
	if now.Phase == impl.PhaseDual || now.Phase == impl.PhaseCutOver {
		if h.New != impl.NewRoot(now.New).Value {
			t.Fatalf("%+v has not the root of %v", h, now.New)
		}
	}
	if was.Phase != now.Phase || was.Cursor != now.Cursor || !slices.Equal(was.New, now.New) {
		t.Fatalf("the end of an epoch moved %+v to %+v", was, now)
	}
}

func seeNeed(t *testing.T, s impl.State, n int64) impl.IntResult {
	t.Helper()
	got := impl.NeedSteps(s, n)
	if want := needBy(s, n); got != want {
		t.Fatalf("NeedSteps(%+v, %d) = %+v, not %+v", s, n, got, want)
	}
	return got
}

// seeState: its fault, all that may be done with it, and how many steps it takes.
func seeState(t *testing.T, s impl.State) map[int64]int {
	t.Helper()
	code := stateCode(s)
	if got := impl.StateFault(s); got != code {
		t.Fatalf("StateFault(%+v) = %d, not %d", s, got, code)
	}
	codes := map[int64]int{}
	for _, o := range doingsFor(s) {
		codes[seeDone(t, s, o).Code]++
	}
	for _, n := range someN {
		codes[seeNeed(t, s, n).Code]++
	}
	return codes
}

// seeFault: a state with a fault has its code told by all functions, and nothing else.
func seeFault(t *testing.T, name string, s impl.State, code int64) {
	t.Helper()
	if stateCode(s) != code {
		t.Fatalf("%s: the words said over again tell %d, not %d", name, stateCode(s), code)
	}
	if got := impl.StateFault(s); got != code {
		t.Fatalf("%s: StateFault(%+v) = %d, not %d", name, s, got, code)
	}
	asks := []doing{{what: "start"}, {what: "copy", n: 1}, {what: "copy", n: 0}, {what: "back"}, {what: "over"}, {what: "close"}, {what: "update", r: by(9, 1, 9), secret: 9}, {what: "update", secret: -1}}
	for _, o := range asks {
		if code == impl.OK {
			seeDone(t, s, o)
		} else if got := o.ask(s); !noState(got, code) {
			t.Fatalf("%s: %+v = %+v, not code %d", name, o, got, code)
		}
	}
	for _, n := range []int64{-1, 0, 1, 256, 257} {
		if got := seeNeed(t, s, n); code != impl.OK && got != (impl.IntResult{Code: code}) {
			t.Fatalf("%s: NeedSteps = %+v, not code %d", name, got, code)
		}
	}
}

func TestMoveConstants(t *testing.T) {
	if impl.MaxCursor != 256 {
		t.Error("the constant of chapter 11")
	}
}

func TestNewState(t *testing.T) {
	got := impl.NewState()
	if got.Code != impl.OK || got.State.Phase != impl.PhaseIdle || !sameState(got.State, impl.State{Phase: 1}) {
		t.Fatalf("NewState = %+v", got)
	}
	seeState(t, got.State)
	// What becomes of one is nothing to the next one.
	got.State.Heads = append(got.State.Heads, impl.Head{Epoch: 5})
	got.State.Directory.Records = append(got.State.Directory.Records, by(3, 1, 0))
	if again := impl.NewState(); !sameState(again.State, impl.State{Phase: 1}) {
		t.Errorf("NewState = %+v, the second time", again)
	}
}

// The keys: bob 3, ann 252.
func TestMoveExamples(t *testing.T) {
	bob := impl.Record{Label: "bob", Version: 1, Owner: 60227, Pin: 5}
	ann := impl.Record{Label: "ann", Version: 1, Owner: 60220, Pin: 65520}
	bob2 := impl.Record{Label: "bob", Version: 2, Owner: 60227, Pin: 6}
	bobSlot, bob2Slot, annSlot := impl.Slot{Key: 3, Value: 55624}, impl.Slot{Key: 3, Value: 18008}, impl.Slot{Key: 252, Value: 29205}
	want := impl.State{Phase: 1}
	s := impl.NewState().State
	do := func(o doing, turn func()) {
		t.Helper()
		turn()
		got := o.ask(s)
		if got.Code != impl.OK || !sameState(got.State, want) {
			t.Fatalf("%+v = %+v, not %+v", o, got, want)
		}
		s = got.State
	}
	do(doing{what: "update", r: bob, secret: 7}, func() { want.Directory.Records = []impl.Record{bob} })
	do(doing{what: "close"}, func() {
		want.Heads = []impl.Head{{Epoch: 1, Phase: 1, Old: 36943}}
		want.Past = []impl.Directory{{Records: []impl.Record{bob}}}
	})
	do(doing{what: "start"}, func() { want.Phase = 2 })
	do(doing{what: "copy", n: 3}, func() { want.Cursor = 3 })
	do(doing{what: "copy", n: 1}, func() { want.Cursor, want.New = 4, []impl.Slot{bobSlot} })
	do(doing{what: "update", r: ann, secret: 0}, func() { want.Directory.Records = []impl.Record{bob, ann} })
	do(doing{what: "close"}, func() {
		want.Heads = append(want.Heads, impl.Head{Epoch: 2, Phase: 2, Old: 37519, Prev: 26979})
		want.Past = append(want.Past, impl.Directory{Records: []impl.Record{bob, ann}})
	})
	do(doing{what: "update", r: bob2, secret: 7}, func() {
		want.Directory.Records, want.New = []impl.Record{bob2, ann}, []impl.Slot{bob2Slot}
	})
	if got := impl.NeedSteps(s, 100); got != (impl.IntResult{Value: 3}) {
		t.Errorf("NeedSteps of 252 keys by 100 = %+v", got)
	}
	do(doing{what: "copy", n: 256}, func() { want.Phase, want.Cursor, want.New = 3, 256, []impl.Slot{bob2Slot, annSlot} })
	do(doing{what: "close"}, func() {
		want.Heads = append(want.Heads, impl.Head{Epoch: 3, Phase: 3, Old: 28801, New: 25934, Prev: 26823})
		want.Past = append(want.Past, impl.Directory{Records: []impl.Record{bob2, ann}})
	})
	dual := s
	do(doing{what: "over"}, func() { want.Phase = 4 })
	do(doing{what: "close"}, func() {
		want.Heads = append(want.Heads, impl.Head{Epoch: 4, Phase: 4, New: 25934, Prev: 47405})
		want.Past = append(want.Past, impl.Directory{Records: []impl.Record{bob2, ann}})
	})
	back := impl.RollBack(dual)
	if back.Code != impl.OK || back.State.Phase != impl.PhaseBack || back.State.Cursor != 0 || len(back.State.New) != 0 || len(back.State.Heads) != 3 || len(back.State.Directory.Records) != 2 {
		t.Errorf("RollBack = %+v", back)
	}
}

// P12: of each phase, at the edges of its cursor, of none to MaxSlots records, behind none to MaxEpochs heads.
func TestP12SomeStates(t *testing.T) {
	codes := map[int64]int{}
	for _, s := range someStates() {
		if impl.StateFault(s) != impl.OK {
			t.Fatalf("StateFault(%+v) = %d", s, impl.StateFault(s))
		}
		for code, n := range seeState(t, s) {
			codes[code] += n
		}
	}
	for _, code := range []int64{impl.OK, impl.ErrForm, impl.ErrRange, impl.ErrText, impl.ErrTaken, impl.ErrVersion, impl.ErrOwner, impl.ErrState, impl.ErrFull} {
		if codes[code] < 20 {
			t.Errorf("code %d seen %d times alone: %v", code, codes[code], codes)
		}
	}
}

// P12: at each cursor an update below it is in New at once, one at it or above it comes with its copy.
func TestP12UpdatesAtTheCursor(t *testing.T) {
	below, above := 0, 0
	for _, d := range []impl.Directory{{}, directoryAt(0, 77, 255), spread(11, 3, 22)} {
		for cursor := range int64(256) {
			s := stateOf(impl.PhaseCopying, cursor, d)
			for _, key := range []int64{0, cursor - 1, cursor, cursor + 1, 77, 255} {
				if key < 0 || key > 255 {
					continue
				}
				r, secret := by(key, 1, secretOf(key)), secretOf(key)
				if was, there := atKey(d, key); there {
					r.Version = was.Version + 1
				}
				got := seeDone(t, s, doing{what: "update", r: r, secret: secret})
				if got.Code != impl.OK {
					t.Fatalf("UpdateState at the cursor %d, key %d = %+v", cursor, key, got)
				}
				slot := impl.FindSlot(got.State.New, key)
				if key < cursor && slot != impl.RecordSum(r) || key >= cursor && slot.Code != impl.ErrNone {
					t.Fatalf("at the cursor %d the key %d has %+v", cursor, key, slot)
				}
				if key < cursor {
					below++
				} else {
					above++
				}
				done := seeDone(t, got.State, doing{what: "copy", n: 256})
				if done.State.Phase != impl.PhaseDual || impl.FindSlot(done.State.New, key) != impl.RecordSum(r) {
					t.Fatalf("copied: the key %d is not in %+v", key, done)
				}
			}
		}
	}
	if below < 1000 || above < 1000 {
		t.Errorf("%d updates below the cursor, %d not below it alone", below, above)
	}
}

// P12: updates in each phase: none is in New in PhaseIdle and PhaseBack, all in PhaseDual and PhaseCutOver.
func TestP12UpdatesInEachPhase(t *testing.T) {
	for _, phase := range allPhases {
		if phase == impl.PhaseCopying {
			continue
		}
		s := stateOf(phase, cursorsIn[phase][0], impl.Directory{}, phase)
		for n := range int64(12) {
			key := n * 255 / 11
			for version := int64(1); version <= 3; version++ {
				s = seeDone(t, s, doing{what: "update", r: by(key, version, 5), secret: 5}).State
			}
			want := int64(0)
			if phase == impl.PhaseDual || phase == impl.PhaseCutOver {
				want = n + 1
			}
			if int64(len(s.Directory.Records)) != n+1 || int64(len(s.New)) != want {
				t.Fatalf("in the phase %d, behind the key %d: %+v", phase, key, s)
			}
		}
		if got := seeDone(t, s, doing{what: "update", r: by(100, 1, 5), secret: 5}); !noState(got, impl.ErrFull) {
			t.Errorf("one record more than MaxSlots: %+v", got)
		}
		if got := seeDone(t, s, doing{what: "update", r: by(255, 4, 5), secret: 5}); got.Code != impl.OK {
			t.Errorf("a next version of a full directory: %+v", got)
		}
	}
}

// movable: a state from which a move may begin.
func movable(phase int64, d impl.Directory) impl.State {
	return stateOf(phase, 0, d, phase, phase)
}

// P12: a move that is not turned back is done behind as many steps as it needs, and no fewer, whatever is updated and closed meanwhile.
func TestP12Moves(t *testing.T) {
	for _, phase := range []int64{impl.PhaseIdle, impl.PhaseBack} {
		for at, d := range moveDirectories() {
			for _, n := range []int64{1, 2, 3, 7, 64, 100, 127, 128, 129, 255, 256} {
				if n < 3 && at%4 != 2 {
					continue
				}
				s := seeDone(t, movable(phase, d), doing{what: "start"}).State
				need := seeNeed(t, s, n)
				if need.Value != (255+n)/n {
					t.Fatalf("NeedSteps of all keys by %d = %+v", n, need)
				}
				for step := range need.Value {
					if s.Phase != impl.PhaseCopying || s.Cursor != step*n || seeNeed(t, s, n).Value != need.Value-step {
						t.Fatalf("behind %d steps of %d: %+v", step, n, s)
					}
					if len(s.Directory.Records) < 12 && step%5 == 1 {
						s = seeDone(t, s, doing{what: "update", r: by(10+step*3%200, 1, 5), secret: 5}).State
					}
					if len(s.Heads) < 10 && step%3 == 2 {
						s = seeDone(t, s, doing{what: "close"}).State
					}
					s = seeDone(t, s, doing{what: "copy", n: n}).State
				}
				if s.Phase != impl.PhaseDual || s.Cursor != 256 || !slices.Equal(s.New, impl.SlotsOf(s.Directory).Slots) {
					t.Fatalf("behind %d steps of %d: %+v", need.Value, n, s)
				}
				if got := seeNeed(t, s, n); got != (impl.IntResult{Code: impl.ErrState}) {
					t.Fatalf("NeedSteps in PhaseDual = %+v", got)
				}
				over := seeDone(t, s, doing{what: "over"})
				if over.Code != impl.OK || over.State.Phase != impl.PhaseCutOver || !slices.Equal(over.State.New, s.New) {
					t.Fatalf("CutOver = %+v", over)
				}
			}
		}
	}
}

// NeedSteps at each cursor, by each n.
func TestP12NeedStepsEverywhere(t *testing.T) {
	for cursor := range int64(256) {
		s := stateOf(impl.PhaseCopying, cursor, directoryAt(77))
		for n := int64(1); n <= 256; n++ {
			if got := impl.NeedSteps(s, n); got != (impl.IntResult{Value: stepsFrom(cursor, n)}) {
				t.Fatalf("NeedSteps at the cursor %d by %d = %+v, not %d", cursor, n, got, stepsFrom(cursor, n))
			}
		}
	}
}

// One step at each cursor, by each n: where it ends, cut short or not.
func TestP12StepsCutShort(t *testing.T) {
	short, whole := 0, 0
	d := directoryAt(0, 77, 128, 255)
	for cursor := range int64(256) {
		s := stateOf(impl.PhaseCopying, cursor, d)
		for _, n := range []int64{1, 2, 100, 128, 255 - cursor, 256 - cursor, 257 - cursor, 254, 255, 256} {
			if n < 1 || n > 256 {
				continue
			}
			got := seeDone(t, s, doing{what: "copy", n: n})
			if cursor+n >= 256 {
				short++
				if got.State.Phase != impl.PhaseDual || got.State.Cursor != 256 || len(got.State.New) != 4 {
					t.Fatalf("CopySome at the cursor %d by %d = %+v", cursor, n, got)
				}
			} else {
				whole++
				if got.State.Phase != impl.PhaseCopying || got.State.Cursor != cursor+n || slices.ContainsFunc(got.State.New, func(x impl.Slot) bool { return x.Key >= cursor+n }) {
					t.Fatalf("CopySome at the cursor %d by %d = %+v", cursor, n, got)
				}
			}
		}
	}
	if short < 500 || whole < 500 {
		t.Errorf("%d steps that reach the end, %d that do not alone", short, whole)
	}
}

// P12: turned back at each cursor and in PhaseDual, nothing that was copied is left; and a move may begin again, from the first key on.
func TestP12TurnedBack(t *testing.T) {
	d := directoryAt(0, 3, 128, 255)
	for cursor := range int64(257) {
		phase := int64(impl.PhaseCopying)
		if cursor == 256 {
			phase = impl.PhaseDual
		}
		s := stateOf(phase, cursor, d, 1)
		back := seeDone(t, s, doing{what: "back"})
		if back.Code != impl.OK || back.State.Phase != impl.PhaseBack || back.State.Cursor != 0 || len(back.State.New) != 0 {
			t.Fatalf("RollBack at the cursor %d = %+v", cursor, back)
		}
		for _, left := range back.State.New[:cap(back.State.New)] {
			if left != (impl.Slot{}) {
				t.Fatalf("RollBack at the cursor %d leaves %v behind", cursor, left)
			}
		}
		for _, o := range []doing{{what: "back"}, {what: "over"}, {what: "copy", n: 1}} {
			if got := seeDone(t, back.State, o); !noState(got, impl.ErrState) {
				t.Fatalf("%+v in PhaseBack = %+v", o, got)
			}
		}
		updated := seeDone(t, back.State, doing{what: "update", r: by(7, 1, 5), secret: 5})
		again := seeDone(t, updated.State, doing{what: "start"})
		if again.State.Phase != impl.PhaseCopying || again.State.Cursor != 0 || len(again.State.New) != 0 || seeNeed(t, again.State, 1).Value != 256 {
			t.Fatalf("StartMove behind RollBack at the cursor %d = %+v", cursor, again)
		}
		if dual := seeDone(t, again.State, doing{what: "copy", n: 256}); dual.State.Phase != impl.PhaseDual || len(dual.State.New) != 5 {
			t.Fatalf("CopySome behind RollBack at the cursor %d = %+v", cursor, dual)
		}
	}
}

// P12: behind the cut nothing leads away, whatever is asked.
func TestP12BehindTheCut(t *testing.T) {
	for _, d := range moveDirectories() {
		s := seeDone(t, stateOf(impl.PhaseDual, 256, d, 1, 3), doing{what: "over"}).State
		for round := range int64(4) {
			for _, o := range doingsFor(s) {
				got := seeDone(t, s, o)
				if got.Code == impl.OK && (got.State.Phase != impl.PhaseCutOver || got.State.Cursor != 256) {
					t.Fatalf("%+v leads from the cut to %+v", o, got)
				}
				if _, moves := phasesFor[o.what]; moves && got.Code != impl.ErrState {
					t.Fatalf("%+v behind the cut = %+v", o, got)
				}
			}
			s = seeDone(t, s, doing{what: "close"}).State
			if next := seeDone(t, s, doing{what: "update", r: by(200+round, 1, 5), secret: 5}); next.Code == impl.OK {
				s = next.State
			}
		}
	}
}

// Each of the moves from each phase: done, or ErrState.
func TestP12MovesFromEachPhase(t *testing.T) {
	for _, s := range fewStates() {
		for _, o := range []doing{{what: "start"}, {what: "copy", n: 1}, {what: "copy", n: 256}, {what: "back"}, {what: "over"}} {
			got := seeDone(t, s, o)
			if may := slices.Contains(phasesFor[o.what], s.Phase); may != (got.Code == impl.OK) || !may && !noState(got, impl.ErrState) {
				t.Errorf("%+v in the phase %d = %+v", o, s.Phase, got)
			}
		}
		// In a phase in which it may not be, an n that may not be tells nothing.
		for _, n := range someN {
			want := int64(impl.ErrState)
			if s.Phase == impl.PhaseCopying {
				want = impl.OK
				if n < 1 || n > 256 {
					want = impl.ErrRange
				}
			}
			if got := seeDone(t, s, doing{what: "copy", n: n}); got.Code != want {
				t.Errorf("CopySome(%d) in the phase %d = %+v, not code %d", n, s.Phase, got, want)
			}
			if got := seeNeed(t, s, n); got.Code != want || (want == impl.OK) != (got.Value > 0) {
				t.Errorf("NeedSteps(%d) in the phase %d = %+v, not code %d", n, s.Phase, got, want)
			}
		}
	}
}

// P12: epochs closed in each phase, from none to MaxEpochs, with the roots of the directory as it is.
func TestP12Epochs(t *testing.T) {
	for _, phase := range allPhases {
		for _, cursor := range cursorsIn[phase] {
			s := stateOf(phase, cursor, directoryAt(0, 100, 255))
			for epoch := int64(1); epoch <= 10; epoch++ {
				got := seeDone(t, s, doing{what: "close"})
				if got.Code != impl.OK || int64(len(got.State.Heads)) != epoch || got.State.Heads[epoch-1].Epoch != epoch || got.State.Heads[epoch-1].Phase != phase {
					t.Fatalf("CloseEpoch in the phase %d = %+v", phase, got)
				}
				s = got.State
				if epoch%2 == 0 {
					s = seeDone(t, s, doing{what: "update", r: by(50+epoch, 1, 5), secret: 5}).State
				} else if epoch > 1 {
					s = seeDone(t, s, doing{what: "update", r: by(52, (epoch+1)/2, 5), secret: 5}).State
				}
			}
			if got := seeDone(t, s, doing{what: "close"}); !noState(got, impl.ErrFull) {
				t.Fatalf("CloseEpoch behind MaxEpochs = %+v", got)
			}
			if got := seeDone(t, s, doing{what: "update", r: by(99, 1, 5), secret: 5}); got.Code != impl.OK {
				t.Fatalf("UpdateState behind MaxEpochs = %+v", got)
			}
			// What was published stays as it was published.
			for at, h := range s.Heads {
				if impl.HeadFor(s.Past[at], h.Epoch, h.Phase, h.Prev) != (impl.HeadResult{Head: h}) {
					t.Fatalf("%+v is not the head of %v", h, s.Past[at])
				}
			}
			if impl.ChainFault(s.Heads) != impl.OK {
				t.Fatalf("%+v is no chain", s.Heads)
			}
		}
	}
}

// An epoch that nothing came between is closed with the same roots, of another epoch and another Prev.
func TestP12EpochsOfNothing(t *testing.T) {
	s := impl.NewState().State
	for range 10 {
		s = seeDone(t, s, doing{what: "close"}).State
	}
	for at, h := range s.Heads {
		if h.Old != 35702 || h.New != 0 || len(s.Past[at].Records) != 0 || at > 0 && h.Prev == s.Heads[at-1].Prev {
			t.Errorf("the head %+v of nothing", h)
		}
	}
}

// P12 along histories of all kinds of calls, each one held against the same history by the document's words.
func TestP12Histories(t *testing.T) {
	seen := map[string]int{}
	for walk := range uint32(60) {
		dice := walk*2654435761 + 12345
		roll := func(n int64) int64 {
			dice = dice*1664525 + 1013904223
			return int64(dice>>8) % n
		}
		is, want := impl.NewState().State, impl.State{Phase: 1}
		for range 40 {
			o := rolled(want, roll)
			got, meant := seeDone(t, is, o), o.wanted(want)
			if got.Code != meant.Code || !sameState(got.State, meant.State) {
				t.Fatalf("%+v of %+v = %+v, not %+v", o, is, got, meant)
			}
			seen[fmt.Sprint(o.what, " ", got.Code == impl.OK)]++
			seen[fmt.Sprint("phase ", want.Phase)]++
			if got.Code == impl.OK {
				is, want = got.State, meant.State
			}
		}
		seeNeed(t, is, roll(256)+1)
	}
	for _, what := range []string{"update true", "start true", "copy true", "back true", "over true", "close true", "update false", "start false", "copy false", "back false", "over false", "phase 1", "phase 2", "phase 3", "phase 4", "phase 5"} {
		if seen[what] < 10 {
			t.Errorf("%s: seen %d times alone: %v", what, seen[what], seen)
		}
	}
}

// rolled: something to do next, of the kinds that lead on rather than of the others.
func rolled(s impl.State, roll func(n int64) int64) doing {
	switch roll(10) {
	case 0:
		return doing{what: "start"}
	case 1, 2:
		return doing{what: "copy", n: roll(140) + 1}
	case 3:
		return doing{what: []string{"back", "start", "over"}[roll(3)]}
	case 4:
		return doing{what: "over"}
	case 5:
		return doing{what: "close"}
	}
	key := roll(8) * 255 / 7
	if roll(3) == 0 {
		key = roll(256)
	}
	r := by(key, 1, 5)
	if was, there := atKey(s.Directory, key); there {
		r.Version = was.Version + 1
	}
	return doing{what: "update", r: r, secret: 5 + roll(8)/7}
}

// The cursor at its edges and far from them in each phase, with the New slots that would be below it, none, and all.
func TestStateFaultCursors(t *testing.T) {
	cursors := []int64{math.MinInt64, -4294967040, -256, -2, -1, 0, 1, 2, 77, 78, 127, 128, 254, 255, 256, 257, 258, 511, 512, 65536, 4294967296, 4294967552, math.MaxInt64}
	good := 0
	for _, phase := range allPhases {
		for _, d := range []impl.Directory{{}, directoryAt(0), directoryAt(255), directoryAt(77), directoryAt(0, 77, 255), spread(12, 244, 1)} {
			for _, cursor := range cursors {
				for _, slots := range [][]impl.Slot{slotsBelow(d, cursor), nil, slotsBy(d), slotsBelow(d, cursor+1)} {
					s := impl.State{Phase: phase, Cursor: cursor, Directory: d, New: slots}
					fits := slices.Contains([]int64{impl.PhaseIdle, impl.PhaseBack}, phase) && cursor == 0 || phase == impl.PhaseCopying && cursor >= 0 && cursor <= 255 || slices.Contains([]int64{impl.PhaseDual, impl.PhaseCutOver}, phase) && cursor == 256
					code := formUnless(fits && slices.Equal(slots, slotsBelow(d, cursor)))
					if code == impl.OK {
						good++
					}
					if got := impl.StateFault(s); got != code || got != stateCode(s) {
						t.Fatalf("StateFault(%+v) = %d, not %d", s, got, code)
					}
					seeFault(t, "a cursor", s, code)
				}
			}
		}
	}
	if good < 100 {
		t.Errorf("%d states without a fault alone", good)
	}
}

// New slots that are not those below the cursor, in each phase.
func TestStateFaultNewSlots(t *testing.T) {
	for _, phase := range allPhases {
		for _, cursor := range cursorsIn[phase] {
			for _, d := range []impl.Directory{directoryAt(0, 77, 254, 255), spread(12, 3, 22)} {
				s := stateOf(phase, cursor, d, 1, phase)
				seeFault(t, "New as it has to be", s, impl.OK)
				wrong := [][]impl.Slot{append(slices.Clone(s.New), impl.Slot{Key: 255, Value: 5}), append(slices.Clone(s.New), impl.Slot{}), append([]impl.Slot{{}}, s.New...), append(slices.Clone(s.New), s.New...)}
				for at := range s.New {
					for _, turn := range []func(x *impl.Slot){func(x *impl.Slot) { x.Value++ }, func(x *impl.Slot) { x.Value = 0 }, func(x *impl.Slot) { x.Key++ }, func(x *impl.Slot) { x.Key = -1 }} {
						other := slices.Clone(s.New)
						turn(&other[at])
						wrong = append(wrong, other)
					}
					wrong = append(wrong, s.New[:at], s.New[at+1:], slices.Delete(slices.Clone(s.New), at, at+1))
				}
				if len(s.New) > 1 {
					back := slices.Clone(s.New)
					slices.Reverse(back)
					wrong = append(wrong, back)
				}
				for _, slots := range wrong {
					if slices.Equal(slots, s.New) {
						continue
					}
					bad := turnedState(s, func(s *impl.State) { s.New = slots })
					if got := impl.StateFault(bad); got != impl.ErrForm || stateCode(bad) != impl.ErrForm {
						t.Fatalf("StateFault(%+v) = %d", bad, got)
					}
				}
			}
		}
	}
	// The slots of a version that is gone.
	late := stateOf(impl.PhaseDual, 256, directoryAt(3))
	late.Directory = impl.Directory{Records: []impl.Record{by(3, 2, secretOf(3))}}
	seeFault(t, "a version that is gone", late, impl.ErrForm)
}

// stateTurn: one thing of a state that is not so, and its place in the order of codes.
type stateTurn struct {
	name string
	rank int
	code int64
	turn func(s *impl.State)
}

// stateTurns: for states of some records, Cursor and New slots behind at least three heads, of which the last one is not of PhaseIdle.
func stateTurns() []stateTurn {
	rebind := func(s *impl.State, at int) { s.Heads = boundAnew(s.Heads, at) }
	return []stateTurn{
		{"the phase 0", 0, impl.ErrRange, func(s *impl.State) { s.Phase = 0 }},
		{"the phase 6", 0, impl.ErrRange, func(s *impl.State) { s.Phase = 6 }},
		{"a directory that falls", 1, impl.ErrForm, func(s *impl.State) { slices.Reverse(s.Directory.Records) }},
		{"a directory of thirteen", 1, impl.ErrMany, func(s *impl.State) { s.Directory = spread(13, 0, 1) }},
		{"a record of the version 0", 1, impl.ErrRange, func(s *impl.State) { s.Directory.Records[0].Version = 0 }},
		{"a label with a blank", 1, impl.ErrText, func(s *impl.State) { s.Directory.Records[1].Label = "a b" }},
		{"the cursor -1", 2, impl.ErrForm, func(s *impl.State) { s.Cursor = -1 }},
		{"the cursor 257", 2, impl.ErrForm, func(s *impl.State) { s.Cursor = 257 }},
		{"a new slot more", 2, impl.ErrForm, func(s *impl.State) { s.New = append(s.New, impl.Slot{Key: 255}) }},
		{"another value", 2, impl.ErrForm, func(s *impl.State) { s.New[0].Value = (s.New[0].Value + 1) % 65521 }},
		{"eleven heads", 3, impl.ErrMany, func(s *impl.State) { s.Heads = make([]impl.Head, 11) }},
		{"the epoch 0", 4, impl.ErrRange, func(s *impl.State) { s.Heads[0].Epoch = 0 }},
		{"a New root in PhaseIdle", 4, impl.ErrForm, func(s *impl.State) { s.Heads[0].New = 5 }},
		{"a first Prev that is not 0", 4, impl.ErrProof, func(s *impl.State) { s.Heads[0].Prev = 5 }},
		{"a second Prev that is 0", 5, impl.ErrProof, func(s *impl.State) { s.Heads[1].Prev = 0 }},
		{"a second epoch of 3", 5, impl.ErrForm, func(s *impl.State) { s.Heads[1].Epoch = 3 }},
		{"a phase that may not follow", 6, impl.ErrState, func(s *impl.State) {
			s.Heads[2].Phase, s.Heads[2].New = impl.PhaseIdle, 0
			s.Heads[1].Phase, s.Heads[1].New = impl.PhaseBack, 0
			rebind(s, 0)
		}},
		{"one less in Past", 7, impl.ErrMany, func(s *impl.State) { s.Past = s.Past[:len(s.Past)-1] }},
		{"one more in Past", 7, impl.ErrMany, func(s *impl.State) { s.Past = append(s.Past, impl.Directory{}) }},
		{"nothing in Past", 7, impl.ErrMany, func(s *impl.State) { s.Past = nil }},
		{"a first one in Past that falls", 8, impl.ErrForm, func(s *impl.State) { s.Past[0] = directoryAt(5, 4) }},
		{"a first one in Past of thirteen", 8, impl.ErrMany, func(s *impl.State) { s.Past[0] = spread(13, 0, 1) }},
		{"another first one in Past", 8, impl.ErrProof, func(s *impl.State) { s.Past[0] = directoryAt(200) }},
		{"another first Old root", 8, impl.ErrProof, func(s *impl.State) { s.Heads[0].Old = (s.Heads[0].Old + 1) % 65521; rebind(s, 0) }},
		{"a second one in Past with a blank", 9, impl.ErrText, func(s *impl.State) { s.Past[1] = impl.Directory{Records: []impl.Record{{Label: "a b"}}} }},
		{"another second one in Past", 9, impl.ErrProof, func(s *impl.State) { s.Past[1] = directoryAt(201) }},
		{"a third one in Past with a fault", 10, impl.ErrRange, func(s *impl.State) { s.Past[2] = impl.Directory{Records: []impl.Record{{Label: "bob"}}} }},
		{"another third one in Past", 10, impl.ErrProof, func(s *impl.State) { s.Past[2] = directoryAt(202) }},
		{"another last root", 10, impl.ErrProof, func(s *impl.State) {
			h := &s.Heads[2]
			if h.Phase == impl.PhaseCutOver {
				h.New = (h.New + 1) % 65521
			} else {
				h.Old = (h.Old + 1) % 65521
			}
		}},
		{"a phase that may not come", 11, impl.ErrState, func(s *impl.State) { s.Phase, s.Cursor, s.New = impl.PhaseIdle, 0, nil }},
	}
}

func turnable() []impl.State {
	d := directoryAt(3, 77, 252)
	return []impl.State{
		stateOf(impl.PhaseCopying, 100, d, 1, 1, 2),
		stateOf(impl.PhaseCopying, 255, spread(12, 3, 22), 1, 3, 5),
		stateOf(impl.PhaseDual, 256, d, 1, 2, 3),
		stateOf(impl.PhaseCutOver, 256, d, 1, 3, 4),
		stateOf(impl.PhaseCutOver, 256, spread(12, 0, 1), 1, 2, 2),
	}
}

func TestStateFaultAlone(t *testing.T) {
	for _, s := range turnable() {
		seeFault(t, "nothing turned", s, impl.OK)
		for _, x := range stateTurns() {
			seeFault(t, x.name, turnedState(s, x.turn), x.code)
		}
	}
}

// Each two of them at once: the one that is asked first tells.
func TestStateFaultOrderOfCodes(t *testing.T) {
	pairs := 0
	for _, s := range turnable() {
		for _, a := range stateTurns() {
			for _, b := range stateTurns() {
				if a.rank >= b.rank || !apart(a, b) {
					continue
				}
				bad := turnedState(turnedState(s, b.turn), a.turn)
				if got := impl.StateFault(bad); got != a.code || stateCode(bad) != a.code {
					t.Fatalf("%s, %s: StateFault(%+v) = %d, not %d (the words said over again tell %d)", a.name, b.name, bad, got, a.code, stateCode(bad))
				}
				pairs++
			}
		}
	}
	if pairs < 1000 {
		t.Errorf("%d pairs alone", pairs)
	}
	// All of it at once, and then one less from the front on.
	s := turnable()[0]
	bad := turnedState(s, func(s *impl.State) {
		s.Phase, s.Directory, s.Cursor = 9, spread(13, 0, 1), 300
		s.Heads[1].Prev, s.Past = 7, []impl.Directory{directoryAt(5, 4)}
	})
	fixes := []struct {
		code int64
		fix  func()
	}{
		{impl.ErrRange, func() { bad.Phase = s.Phase }},
		{impl.ErrMany, func() { bad.Directory = s.Directory }},
		{impl.ErrForm, func() { bad.Cursor = s.Cursor }},
		{impl.ErrProof, func() { bad.Heads = s.Heads }},
		{impl.ErrMany, func() { bad.Past = []impl.Directory{directoryAt(5, 4), directoryAt(1), s.Past[2]} }},
		{impl.ErrForm, func() { bad.Past[0] = s.Past[0] }},
		{impl.ErrProof, func() { bad.Past[1] = s.Past[1] }},
		{impl.OK, func() {}},
	}
	for _, x := range fixes {
		seeFault(t, "less and less", bad, x.code)
		x.fix()
	}
}

// apart: two turns of which neither undoes the other, or needs what it took away.
func apart(a stateTurn, b stateTurn) bool {
	phases := func(x stateTurn) bool { return x.rank == 0 || x.rank == 2 || x.rank == 11 }
	heads := func(x stateTurn) bool {
		return x.rank >= 3 && x.rank <= 6 || strings.HasSuffix(x.name, "root")
	}
	pasts := func(x stateTurn) bool { return x.rank == 7 || x.rank >= 8 && x.rank <= 10 && !heads(x) }
	if phases(a) && b.rank == 11 {
		return a.rank == 0
	}
	if a.rank == 3 || heads(a) && heads(b) {
		return !heads(b)
	}
	// What is turned in Past must be there.
	return !(pasts(a) && pasts(b)) || a.rank != 7
}

// Each phase behind each last head: one that may follow, or ErrState.
func TestStateFaultPhasesThatFollow(t *testing.T) {
	for _, last := range allPhases {
		for _, phase := range allPhases {
			for _, cursor := range cursorsIn[phase] {
				s := stateOf(phase, cursor, directoryAt(3, 77), 1, last)
				code := int64(impl.OK)
				if last == impl.PhaseCutOver && phase != impl.PhaseCutOver || last != impl.PhaseIdle && phase == impl.PhaseIdle {
					code = impl.ErrState
				}
				seeFault(t, fmt.Sprint("the phase ", phase, " behind ", last), s, code)
			}
		}
	}
	// Behind no head all phases may come.
	for _, phase := range allPhases {
		for _, cursor := range cursorsIn[phase] {
			seeFault(t, "behind no head", stateOf(phase, cursor, directoryAt(3, 77)), impl.OK)
		}
	}
}

func TestStateFaultPhases(t *testing.T) {
	for _, good := range fewStates() {
		for _, phase := range noPhases {
			s := good
			s.Phase = phase
			seeFault(t, fmt.Sprint("the phase ", phase), s, impl.ErrRange)
		}
	}
}

// The last one of MaxEpochs heads is held against its directory too, each root of it, and each place of Past.
func TestStateFaultEveryEpoch(t *testing.T) {
	for _, phases := range [][]int64{{1, 1, 2, 3, 3, 5, 2, 3, 4, 4}, {3, 3, 3, 3, 3, 3, 3, 3, 3, 3}, {1, 1, 1, 1, 1, 1, 1, 1, 1, 1}} {
		last := phases[9]
		s := stateOf(last, cursorsIn[last][0], directoryAt(3, 77), phases...)
		seeFault(t, "ten epochs", s, impl.OK)
		for at := range phases {
			h := s.Heads[at]
			turns := map[string]func(h *impl.Head){}
			if h.Phase != impl.PhaseCutOver {
				turns["another Old root"] = func(h *impl.Head) { h.Old = (h.Old + 1) % 65521 }
			}
			if h.Phase == impl.PhaseDual || h.Phase == impl.PhaseCutOver {
				turns["another New root"] = func(h *impl.Head) { h.New = (h.New + 65520) % 65521 }
			}
			for name, turn := range turns {
				heads := boundAnew(turnedAt(s.Heads, at, turn), at)
				seeFault(t, name, turnedState(s, func(s *impl.State) { s.Heads = heads }), impl.ErrProof)
			}
			seeFault(t, "another directory", turnedState(s, func(s *impl.State) { s.Past[at] = directoryAt(251) }), impl.ErrProof)
			seeFault(t, "a directory with a fault", turnedState(s, func(s *impl.State) { s.Past[at] = spread(13, 0, 1) }), impl.ErrMany)
			seeFault(t, "one directory less", turnedState(s, func(s *impl.State) { s.Past = slices.Delete(s.Past, at, at+1) }), impl.ErrMany)
			if at > 0 {
				seeFault(t, "two directories, turned round", turnedState(s, func(s *impl.State) { s.Past[at-1], s.Past[at] = s.Past[at], s.Past[at-1] }), impl.ErrProof)
			}
			// A fault ahead tells, whatever stands behind it.
			both := turnedState(s, func(s *impl.State) {
				s.Past[at] = directoryAt(251)
				for behind := at + 1; behind < 10; behind++ {
					s.Past[behind] = spread(13, 0, 1)
				}
			})
			seeFault(t, "another directory, then faults", both, impl.ErrProof)
		}
	}
}

// MaxEpochs - 1 and MaxEpochs heads, and one more.
func TestStateFaultEpochs(t *testing.T) {
	for n := range 11 {
		phases := slices.Repeat([]int64{1}, n)
		s := stateOf(impl.PhaseIdle, 0, directoryAt(9), phases...)
		seeFault(t, fmt.Sprint(n, " epochs"), s, impl.OK)
		if got := impl.CloseEpoch(s); (got.Code == impl.OK) != (n < 10) || n == 10 && !noState(got, impl.ErrFull) {
			t.Errorf("CloseEpoch behind %d = %+v", n, got)
		}
	}
	s := stateOf(impl.PhaseIdle, 0, directoryAt(9), slices.Repeat([]int64{1}, 11)...)
	seeFault(t, "eleven epochs", s, impl.ErrMany)
}

// An update has the codes of UpdateRecord, in its order, behind the fault of the state.
func TestUpdateStateCodes(t *testing.T) {
	full := spread(12, 3, 22)
	for _, phase := range allPhases {
		for _, cursor := range cursorsIn[phase] {
			some, all := stateOf(phase, cursor, directoryAt(3, 77), 1), stateOf(phase, cursor, full, 1)
			cases := map[string]struct {
				s      impl.State
				r      impl.Record
				secret int64
				code   int64
			}{
				"nothing":                     {some, impl.Record{}, 5, impl.ErrForm},
				"a long label":                {some, impl.Record{Label: "abcdefghijklm", Version: 1}, -1, impl.ErrMany},
				"a label with a blank":        {some, impl.Record{Label: "a b"}, 1000, impl.ErrText},
				"the version 0":               {some, by(9, 0, 5), 1000, impl.ErrRange},
				"the secret -1":               {some, by(9, 1, 5), -1, impl.ErrRange},
				"the secret 1000":             {some, by(9, 2, 5), 1000, impl.ErrRange},
				"another label of the key":    {some, impl.Record{Label: keyLabels[77][2], Version: 5}, 5, impl.ErrTaken},
				"not the owner":               {some, by(77, 9, secretOf(77)), 5, impl.ErrOwner},
				"the version that is there":   {some, by(77, 2, secretOf(77)), secretOf(77), impl.ErrVersion},
				"a version too far":           {some, by(77, 4, secretOf(77)), secretOf(77), impl.ErrVersion},
				"a first version of 2":        {some, by(9, 2, 5), 6, impl.ErrVersion},
				"a first one of another":      {some, by(9, 1, 5), 6, impl.ErrOwner},
				"one more than MaxSlots":      {all, by(9, 1, 5), 5, impl.ErrFull},
				"one more, of another owner":  {all, by(9, 1, 5), 6, impl.ErrOwner},
				"a first one":                 {some, by(9, 1, 5), 5, impl.OK},
				"a next one":                  {some, by(77, 3, secretOf(77)), secretOf(77), impl.OK},
				"a next one of all":           {all, by(25, 3, secretOf(25)), secretOf(25), impl.OK},
				"a next one of a new owner":   {some, by(77, 3, 900), secretOf(77), impl.OK},
				"a first one of key 0":        {some, by(0, 1, 0), 0, impl.OK},
				"a first one of key 255":      {some, by(255, 1, 999), 999, impl.OK},
				"an owner that was not asked": {some, by(3, 2, 900), 900, impl.ErrOwner},
			}
			for name, x := range cases {
				if got := seeDone(t, x.s, doing{what: "update", r: x.r, secret: x.secret}); got.Code != x.code {
					t.Fatalf("%s: UpdateState = %+v, not code %d", name, got, x.code)
				}
			}
		}
	}
}

// oneThing: a state, and others that part from it in one thing alone.
func oneThing(s impl.State) []impl.State {
	turns := []func(s *impl.State){
		func(s *impl.State) { s.Phase++ },
		func(s *impl.State) { s.Cursor++ },
		func(s *impl.State) { s.Cursor -= 4294967296 },
		func(s *impl.State) { s.Directory.Records = append(s.Directory.Records, impl.Record{}) },
		func(s *impl.State) { s.New = append(s.New, impl.Slot{}) },
		func(s *impl.State) { s.Heads = append(s.Heads, impl.Head{}) },
		func(s *impl.State) { s.Past = append(s.Past, impl.Directory{}) },
	}
	for at := range s.Directory.Records {
		for _, turn := range recordTurns {
			turns = append(turns, func(s *impl.State) { turn(&s.Directory.Records[at]) })
		}
		turns = append(turns, func(s *impl.State) { s.Directory.Records = slices.Delete(s.Directory.Records, at, at+1) })
	}
	for at := range s.New {
		turns = append(turns, func(s *impl.State) { s.New[at].Key++ }, func(s *impl.State) { s.New[at].Value-- }, func(s *impl.State) { s.New = s.New[:at] })
	}
	for at := range s.Heads {
		turns = append(turns, func(s *impl.State) { s.Heads[at].Epoch++ }, func(s *impl.State) { s.Heads[at].Phase-- }, func(s *impl.State) { s.Heads[at].Old++ }, func(s *impl.State) { s.Heads[at].New++ }, func(s *impl.State) { s.Heads[at].Prev-- }, func(s *impl.State) { s.Heads = s.Heads[:at] })
	}
	for at, d := range s.Past {
		turns = append(turns, func(s *impl.State) { s.Past = s.Past[:at] }, func(s *impl.State) { s.Past[at].Records = append(s.Past[at].Records, impl.Record{}) })
		for place := range d.Records {
			for _, turn := range recordTurns {
				turns = append(turns, func(s *impl.State) { turn(&s.Past[at].Records[place]) })
			}
			turns = append(turns, func(s *impl.State) { s.Past[at].Records = s.Past[at].Records[:place] })
		}
	}
	var out []impl.State
	for _, turn := range turns {
		out = append(out, turnedState(s, turn))
	}
	return out
}

var recordTurns = []func(r *impl.Record){
	func(r *impl.Record) { r.Label += "x" },
	func(r *impl.Record) { r.Label = strings.ToUpper(r.Label) + "!" },
	func(r *impl.Record) { r.Version++ },
	func(r *impl.Record) { r.Owner++ },
	func(r *impl.Record) { r.Pin-- },
}

// Those with a fault may be the same too.
func TestSameStates(t *testing.T) {
	all := append(fewStates(), turnable()...)
	all = append(all, impl.State{}, impl.State{Phase: 1}, stateOf(-7, 300, directoryAt(9, 3), 1, 4, 1), stateOf(3, 256, spread(12, 0, 1), 3, 3, 3, 3, 3, 3, 3, 3, 3, 3))
	parted := 0
	for at, a := range all {
		if !impl.SameStates(a, a) || !impl.SameStates(a, stateCopy(a)) || !impl.SameStates(stateCopy(a), a) {
			t.Errorf("%+v is not the same as itself", a)
		}
		for other, b := range all {
			if got := impl.SameStates(a, b); got != (at == other) {
				t.Errorf("SameStates(%+v, %+v) = %v", a, b, got)
			}
		}
		for _, b := range oneThing(a) {
			if impl.SameStates(a, b) || impl.SameStates(b, a) || !impl.SameStates(b, stateCopy(b)) {
				t.Errorf("SameStates(%+v, %+v)", a, b)
			}
			parted++
		}
	}
	if parted < 500 {
		t.Errorf("%d that part alone", parted)
	}
	r := directoryAt(3, 77).Records
	a, b := impl.State{Past: []impl.Directory{{Records: r[:1]}, {Records: r[1:]}}}, impl.State{Past: []impl.Directory{{Records: r}, {}}}
	if impl.SameStates(a, b) || impl.SameStates(b, a) || impl.SameStates(impl.State{Past: make([]impl.Directory, 1)}, impl.State{}) {
		t.Error("the same records in other directories of Past are the same")
	}
	empty := impl.State{Directory: impl.Directory{Records: []impl.Record{}}, New: []impl.Slot{}, Heads: []impl.Head{}, Past: []impl.Directory{}}
	if !impl.SameStates(empty, impl.State{}) || !impl.SameStates(impl.State{Past: []impl.Directory{{Records: []impl.Record{}}}}, impl.State{Past: []impl.Directory{{}}}) {
		t.Error("nil and an empty list are not the same")
	}
}

// moveAsked: one call of each function of the chapter.
type moveAsked struct {
	s      impl.State
	other  impl.State
	r      impl.Record
	secret int64
	n      int64
}

func (x moveAsked) answers() []impl.StateResult {
	return []impl.StateResult{impl.NewState(), impl.UpdateState(x.s, x.r, x.secret), impl.StartMove(x.s), impl.CopySome(x.s, x.n), impl.RollBack(x.s), impl.CutOver(x.s), impl.CloseEpoch(x.s)}
}

func (x moveAsked) ask() string {
	return fmt.Sprint(impl.StateFault(x.s), x.answers(), impl.SameStates(x.s, x.other), impl.NeedSteps(x.s, x.n))
}

func someMovesAsked() []moveAsked {
	states := append(fewStates(), turnable()...)
	for _, x := range stateTurns() {
		states = append(states, turnedState(turnable()[0], x.turn))
	}
	states = append(states, impl.State{}, impl.State{Phase: 1}, stateOf(3, 256, spread(12, 0, 1), 3, 3, 3, 3, 3, 3, 3, 3, 3), stateOf(2, 77, spread(11, 3, 22), 1, 1, 1, 1, 1, 1, 1, 1, 1, 2))
	var out []moveAsked
	for at, s := range states {
		other := states[(at+1)%len(states)]
		out = append(out, moveAsked{s, s, by(9, 1, 9), 9, 1}, moveAsked{s, stateCopy(s), by(255, 1, 5), 5, 256}, moveAsked{s, other, impl.Record{Label: "Bob"}, -1, 0})
		if len(s.Directory.Records) > 0 {
			next := s.Directory.Records[0]
			next.Version++
			out = append(out, moveAsked{s, other, next, secretOf(3), 100})
		}
	}
	return out
}

// roomy: the same state, each list of it with other things ahead of it and behind it; and whether all of that is as it was.
func roomy(s impl.State) (impl.State, func() bool) {
	var stays []func() bool
	s.Directory.Records = amid(&stays, s.Directory.Records, by(7, 1, 0), impl.Record{Label: "A b", Version: -1})
	s.New = amid(&stays, s.New, impl.Slot{Key: 7, Value: 9}, impl.Slot{Key: -5, Value: 65521})
	s.Heads = amid(&stays, s.Heads, rooted(1, 1, 0), impl.Head{Epoch: -5})
	past := slices.Clone(s.Past)
	for at := range past {
		past[at].Records = amid(&stays, past[at].Records, by(8, 2, 0), impl.Record{})
	}
	around := []impl.Directory{directoryAt(7), {}}
	room := slices.Concat(around, past, around)
	was := slices.Clone(room)
	stays = append(stays, func() bool {
		return slices.EqualFunc(room, was, func(a impl.Directory, b impl.Directory) bool {
			return unsafe.SliceData(a.Records) == unsafe.SliceData(b.Records) && slices.Equal(a.Records, b.Records)
		})
	})
	s.Past = room[2 : 2+len(past)]
	return s, func() bool {
		return !slices.ContainsFunc(stays, func(stays func() bool) bool { return !stays() })
	}
}

func amid[T comparable](stays *[]func() bool, list []T, around ...T) []T {
	room := slices.Concat(around, list, around)
	was := slices.Clone(room)
	*stays = append(*stays, func() bool { return slices.Equal(room, was) })
	return room[len(around) : len(around)+len(list)]
}

// P1: what is handed in is as it was, with the room around it; and that room is not looked at.
func TestP1MoveArgumentsStay(t *testing.T) {
	for _, x := range someMovesAsked() {
		given := x
		var sStays, otherStays func() bool
		given.s, sStays = roomy(x.s)
		given.other, otherStays = roomy(x.other)
		if got, want := given.ask(), x.ask(); got != want {
			t.Fatalf("%+v with room around: %s, not %s", x, got, want)
		}
		given.other = given.s
		given.ask()
		if !sStays() || !otherStays() {
			t.Fatalf("%+v turned its arguments: %+v", x, given)
		}
	}
}

// memoryOf: where each element of each list stands, up to the end of its room, and the bytes of each label.
func memoryOf(s impl.State) []unsafe.Pointer {
	var out []unsafe.Pointer
	out = append(out, placesOf(s.New)...)
	out = append(out, placesOf(s.Heads)...)
	out = append(out, placesOf(s.Past)...)
	for _, d := range append([]impl.Directory{s.Directory}, s.Past...) {
		out = append(out, placesOf(d.Records)...)
		for _, r := range d.Records {
			out = append(out, labelPlace(r)...)
		}
	}
	return out
}

func placesOf[T any](list []T) []unsafe.Pointer {
	var out []unsafe.Pointer
	room := list[:cap(list)]
	for at := range room {
		out = append(out, unsafe.Pointer(&room[at]))
	}
	return out
}

func labelPlace(r impl.Record) []unsafe.Pointer {
	if r.Label == "" {
		return nil
	}
	return []unsafe.Pointer{unsafe.Pointer(unsafe.StringData(r.Label))}
}

// P1: no list and no label of an answer stands where one of an argument does, nor where another one of it does.
func TestP1MoveAnswersAreNew(t *testing.T) {
	done := 0
	for _, x := range someMovesAsked() {
		taken := map[unsafe.Pointer]bool{}
		for _, place := range append(memoryOf(x.s), labelPlace(x.r)...) {
			taken[place] = true
		}
		for at, got := range x.answers() {
			for _, place := range memoryOf(got.State) {
				if taken[place] {
					t.Fatalf("answer %d of %+v shares memory: %+v", at, x, got)
				}
				taken[place] = true
			}
			if got.Code == impl.OK {
				done++
			}
		}
	}
	if done < 100 {
		t.Errorf("%d calls without a code alone", done)
	}
}

func spoilState(s impl.State) {
	spoilRecords(s.Directory)
	for _, d := range s.Past[:cap(s.Past)] {
		spoilRecords(d)
	}
	for at := range s.New[:cap(s.New)] {
		s.New[:cap(s.New)][at] = impl.Slot{Key: -5, Value: -5}
	}
	for at := range s.Heads[:cap(s.Heads)] {
		s.Heads[:cap(s.Heads)][at] = impl.Head{Epoch: -5}
	}
	for at := range s.Past[:cap(s.Past)] {
		s.Past[:cap(s.Past)][at] = impl.Directory{Records: make([]impl.Record, 20)}
	}
}

func spoilRecords(d impl.Directory) {
	for at := range d.Records[:cap(d.Records)] {
		d.Records[:cap(d.Records)][at] = impl.Record{Label: "spoilt", Version: -5}
	}
}

// P1: whatever becomes of an answer, or of what was handed in, the other one stays.
func TestP1MoveSpoilt(t *testing.T) {
	for _, x := range someMovesAsked() {
		given := x
		given.s, given.other = stateCopy(x.s), stateCopy(x.other)
		want := given.ask()
		first, second := given.answers(), given.answers()
		told := fmt.Sprint(second)
		for _, got := range first {
			spoilState(got.State)
		}
		if given.ask() != want || fmt.Sprint(second) != told || !sameState(given.s, x.s) {
			t.Fatalf("%+v: an answer shares with what was handed in, or with another one", x)
		}
		spoilState(given.s)
		if fmt.Sprint(second) != told {
			t.Fatalf("%+v: an answer turned with what was handed in", x)
		}
	}
	// Past and the directory are two things, from the end of an epoch on.
	closed := impl.CloseEpoch(stateOf(impl.PhaseIdle, 0, directoryAt(3, 77))).State
	spoilRecords(closed.Directory)
	if !slices.Equal(closed.Past[0].Records, directoryAt(3, 77).Records) {
		t.Errorf("Past turned with the directory: %+v", closed)
	}
}

// P1: nil and an empty list are the same value.
func TestP1NoState(t *testing.T) {
	for _, phase := range allPhases {
		for _, cursor := range cursorsIn[phase] {
			s := impl.State{Phase: phase, Cursor: cursor}
			empty := impl.State{Phase: phase, Cursor: cursor, Directory: impl.Directory{Records: make([]impl.Record, 0, 3)}, New: make([]impl.Slot, 0, 3), Heads: make([]impl.Head, 0, 3), Past: make([]impl.Directory, 0, 3)}
			for _, n := range []int64{0, 1, 256} {
				a, b := moveAsked{s, empty, by(3, 1, 9), 9, n}, moveAsked{empty, s, by(3, 1, 9), 9, n}
				if a.ask() != b.ask() {
					t.Errorf("empty lists: %s, not %s", b.ask(), a.ask())
				}
			}
		}
	}
	bare := stateOf(impl.PhaseIdle, 0, impl.Directory{}, 1)
	full := turnedState(bare, func(s *impl.State) { s.Past[0].Records = []impl.Record{} })
	bare.Past[0].Records = nil
	if a, b := (moveAsked{s: bare, other: full, n: 1}), (moveAsked{s: full, other: bare, n: 1}); a.ask() != b.ask() {
		t.Errorf("an empty directory in Past: %s, not %s", b.ask(), a.ask())
	}
}

func TestP1MovesHangOnArguments(t *testing.T) {
	seeAgain(t, someMovesAsked())
}

// P1: an answer at every argument, however far from what may be.
func TestP1MoveEveryArgument(t *testing.T) {
	far := []int64{math.MinInt64, math.MinInt64 + 1, -1, 0, 1, 2, 3, 4, 5, 6, 255, 256, 257, math.MaxInt64 - 1, math.MaxInt64}
	for _, phase := range far {
		for _, cursor := range far {
			s := impl.State{Phase: phase, Cursor: cursor}
			code := stateCode(s)
			if got := impl.StateFault(s); got != code {
				t.Fatalf("StateFault(%+v) = %d, not %d", s, got, code)
			}
			for _, n := range far {
				seeDone(t, s, doing{what: "copy", n: n})
				seeDone(t, s, doing{what: "update", r: impl.Record{Label: "bob", Version: n, Owner: cursor, Pin: n}, secret: n})
				seeNeed(t, s, n)
			}
			for _, what := range []string{"start", "back", "over", "close"} {
				seeDone(t, s, doing{what: what})
			}
		}
	}
	good := stateOf(impl.PhaseDual, 256, directoryAt(3, 77), 1, 3)
	many := map[string]struct {
		s    impl.State
		code int64
	}{
		"a million records":             {turnedState(good, func(s *impl.State) { s.Directory.Records = make([]impl.Record, 1000000) }), impl.ErrMany},
		"a million new slots":           {turnedState(good, func(s *impl.State) { s.New = make([]impl.Slot, 1000000) }), impl.ErrForm},
		"a million heads":               {turnedState(good, func(s *impl.State) { s.Heads = make([]impl.Head, 1000000) }), impl.ErrMany},
		"a million in Past":             {turnedState(good, func(s *impl.State) { s.Past = make([]impl.Directory, 1000000) }), impl.ErrMany},
		"a million heads, and in Past":  {turnedState(good, func(s *impl.State) { s.Heads, s.Past = make([]impl.Head, 1000000), make([]impl.Directory, 1000000) }), impl.ErrMany},
		"a million records in Past":     {turnedState(good, func(s *impl.State) { s.Past[1].Records = make([]impl.Record, 1000000) }), impl.ErrMany},
		"a label of a million bytes":    {turnedState(good, func(s *impl.State) { s.Directory.Records[0].Label = strings.Repeat("a", 1000000) }), impl.ErrMany},
		"heads that are nothing":        {turnedState(good, func(s *impl.State) { s.Heads = make([]impl.Head, 2) }), impl.ErrRange},
		"directories that are nothing":  {turnedState(good, func(s *impl.State) { s.Past[0].Records = make([]impl.Record, 1) }), impl.ErrForm},
		"a state that is nothing":       {impl.State{}, impl.ErrRange},
		"the phase alone is not so":     {turnedState(good, func(s *impl.State) { s.Phase = math.MaxInt64 }), impl.ErrRange},
		"a cursor as far as numbers go": {turnedState(good, func(s *impl.State) { s.Cursor = math.MaxInt64 }), impl.ErrForm},
	}
	for name, x := range many {
		seeFault(t, name, x.s, x.code)
		if !impl.SameStates(x.s, stateCopy(x.s)) || impl.SameStates(x.s, good) {
			t.Errorf("%s: SameStates", name)
		}
	}
}
