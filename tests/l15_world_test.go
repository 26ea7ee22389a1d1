package tests

import (
	"bytes"
	"fmt"
	"math"
	"runtime"
	"slices"
	"strings"
	"sync"
	"testing"
	"time"
	"unsafe"

	"loop.example/g00602/impl"
)

// stepCode, stepBy, runBy, rootsBy, answersBy, releasedBy and copyAllBy say over again, in the document's
// words, what chapter 15 asks.
func stepCode(t impl.Step) int64 {
	if t.Crash && (t.Op != impl.Op{}) || !t.Crash && t.Keep != 0 {
		return impl.ErrForm
	}
	if t.Keep <= -1 || t.Keep >= 100 {
		return impl.ErrRange
	}
	if t.Crash {
		return impl.OK
	}
	return opCode(t.Op)
}

func stepBy(s impl.Server, x impl.Step) impl.ServerResult {
	if code := serverCode(s); code != impl.OK {
		return impl.ServerResult{Code: code}
	}
	if code := stepCode(x); code != impl.OK {
		return impl.ServerResult{Code: code}
	}
	if x.Crash {
		return crashBy(s, x.Keep)
	}
	return doServerBy(s, x.Op)
}

func runBy(s impl.Server, list []impl.Step) impl.StepsResult {
	if code := serverCode(s); code != impl.OK {
		return impl.StepsResult{Code: code}
	}
	if len(list) >= 25 {
		return impl.StepsResult{Code: impl.ErrMany}
	}
	out := impl.StepsResult{Server: serverCopy(s)}
	for _, x := range list {
		did := stepBy(out.Server, x)
		if did.Code == impl.OK {
			out.Server = did.Server
		}
		out.Codes = append(out.Codes, did.Code)
	}
	return out
}

func rootsBy(s impl.Server) bool {
	if serverCode(s) != impl.OK {
		return false
	}
	for at, h := range s.State.Heads {
		if headForBy(s.State.Past[at], h.Epoch, h.Phase, h.Prev).Head != h {
			return false
		}
	}
	return true
}

// knownServer: a server, its fault and that of its state, worked out once.
type knownServer struct {
	s     impl.Server
	code  int64
	state knownState
}

func knownOf(s impl.Server) knownServer {
	return knownServer{s, serverCode(s), known(s.State)}
}

func (x knownServer) answersBy(label string) bool {
	if x.code != impl.OK || labelCode(label) != impl.OK {
		return false
	}
	for _, h := range x.s.State.Heads {
		for _, old := range []bool{false, true} {
			if _, has := rootBy(h, old); !has {
				continue
			}
			told := x.state.replyTo(h.Epoch, label, old)
			seen := seenBy(h, label, told.Reply)
			if told.Code != impl.OK || seen.Code != impl.OK || seen != x.state.pastAnswer(h.Epoch, label) {
				return false
			}
		}
	}
	return true
}

func releasedBy(a impl.Server, b impl.Server) bool {
	if serverCode(a) != impl.OK || serverCode(b) != impl.OK {
		return false
	}
	for at, h := range a.State.Heads {
		if at >= len(b.State.Heads) || b.State.Heads[at] != h {
			return false
		}
	}
	return true
}

func copyAllBy(s impl.Server, n int64) impl.CopiedResult {
	if code := serverCode(s); code != impl.OK {
		return impl.CopiedResult{Code: code}
	}
	need := needBy(s.State, n)
	if need.Code != impl.OK {
		return impl.CopiedResult{Code: need.Code}
	}
	out := impl.CopiedResult{Server: s}
	for out.Steps < need.Value {
		did := doServerBy(out.Server, opCopy(n))
		if did.Code != impl.OK {
			return impl.CopiedResult{Code: did.Code}
		}
		out.Server, out.Steps = did.Server, out.Steps+1
	}
	return out
}

func crashWith(keep int64) impl.Step {
	return impl.Step{Crash: true, Keep: keep}
}

func stepsOf(ops ...impl.Op) []impl.Step {
	var out []impl.Step
	for _, o := range ops {
		out = append(out, impl.Step{Op: o})
	}
	return out
}

func sameRun(a impl.StepsResult, b impl.StepsResult) bool {
	return a.Code == b.Code && slices.Equal(a.Codes, b.Codes) && sameServer(a.Server, b.Server)
}

func noRun(got impl.StepsResult, code int64) bool {
	return sameRun(got, impl.StepsResult{Code: code})
}

func noCopied(got impl.CopiedResult, code int64) bool {
	return got.Code == code && got.Steps == 0 && sameServer(got.Server, impl.Server{})
}

// seeStep: its fault and what it does are what the words ask; and P16, where it is done.
func seeStep(t *testing.T, s impl.Server, x impl.Step) impl.ServerResult {
	t.Helper()
	if got, want := impl.StepFault(x), stepCode(x); got != want {
		t.Fatalf("StepFault(%+v) = %d, not %d", x, got, want)
	}
	got, want := impl.DoStep(s, x), stepBy(s, x)
	if got.Code != want.Code || !sameServer(got.Server, want.Server) {
		t.Fatalf("DoStep(%+v, %+v) = %+v, not %+v", s, x, got, want)
	}
	if got.Code == impl.OK {
		seeStepped(t, s, got.Server)
	}
	return got
}

// seeStepped: P16, of a server and what it is by now, by what the program itself tells.
func seeStepped(t *testing.T, was impl.Server, now impl.Server) {
	t.Helper()
	seeTold(t, now)
	n := len(was.State.Heads)
	if !impl.ReleasedIn(was, now) || len(now.State.Heads) < n || !slices.Equal(now.State.Heads[:n], was.State.Heads) {
		t.Fatalf("%v were published, and %v are there", was.State.Heads, now.State.Heads)
	}
	if back := impl.ReleasedIn(now, was); back != (len(now.State.Heads) == n) {
		t.Fatalf("ReleasedIn(%+v, %+v) = %v", now, was, back)
	}
	if !impl.RootsRight(now) {
		t.Fatalf("RootsRight(%+v)", now)
	}
}

// seeRun: what is answered is what the words ask, and what the steps do one by one; and P16.
func seeRun(t *testing.T, s impl.Server, list []impl.Step) impl.StepsResult {
	t.Helper()
	got, want := impl.RunSteps(s, list), runBy(s, list)
	if !sameRun(got, want) {
		t.Fatalf("RunSteps(%+v, %+v) = %+v, not %+v", s, list, got, want)
	}
	if got.Code != impl.OK {
		return got
	}
	is := s
	for at, x := range list {
		did := impl.DoStep(is, x)
		if did.Code != got.Codes[at] {
			t.Fatalf("RunSteps(%+v, %+v) = %+v, but step %d has the code %d", s, list, got, at, did.Code)
		}
		if did.Code == impl.OK {
			is = did.Server
		}
	}
	if !impl.SameServers(is, got.Server) || len(got.Codes) != len(list) {
		t.Fatalf("RunSteps(%+v, %+v) = %+v, but one by one %+v", s, list, got, is)
	}
	seeStepped(t, s, got.Server)
	return got
}

// seeWorld: whether all is right, by what the words ask; and P16, by what the program itself tells.
func seeWorld(t *testing.T, s impl.Server, labels ...string) {
	t.Helper()
	x := knownOf(s)
	if got, want := impl.RootsRight(s), rootsBy(s); got != want || got != (x.code == impl.OK) {
		t.Fatalf("RootsRight(%+v) = %v, not %v", s, got, want)
	}
	for _, label := range labels {
		if got, want := impl.AnswersRight(s, label), x.answersBy(label); got != want {
			t.Fatalf("AnswersRight(%+v, %q) = %v, not %v", s, label, got, want)
		}
	}
	if x.code != impl.OK {
		return
	}
	for at, h := range s.State.Heads {
		seeHeadRoots(t, h, s.State.Past[at])
		for _, label := range labels {
			if impl.LabelFault(label) == impl.OK {
				seeEpochAnswers(t, s.State, h, label)
			}
		}
	}
}

func seeHeadRoots(t *testing.T, h impl.Head, d impl.Directory) {
	t.Helper()
	slots := impl.SlotsOf(d).Slots
	old, new := impl.OldRoot(slots).Value, impl.NewRoot(slots).Value
	switch impl.FormsOf(h).Value {
	case 1:
		new = 0
	case 2:
		old = 0
	}
	if h.Old != old || h.New != new {
		t.Fatalf("%+v has not the roots %d and %d of %v", h, old, new, d)
	}
}

func seeEpochAnswers(t *testing.T, s impl.State, h impl.Head, label string) {
	t.Helper()
	past, trees := impl.PastAnswer(s, h.Epoch, label), 0
	for _, old := range []bool{true, false} {
		told := impl.ReplyTo(s, h.Epoch, label, old)
		if told.Code == impl.ErrState {
			continue
		}
		trees++
		if seen := impl.SeeReply(h, label, told.Reply); seen.Code != impl.OK || seen != past {
			t.Fatalf("%q in the epoch %d of %+v: %+v, not %+v", label, h.Epoch, s, seen, past)
		}
	}
	if two := impl.FormsOf(h).Value == 3; trees == 0 || two != (trees == 2) {
		t.Fatalf("%q in the epoch %d of %+v is told by %d trees", label, h.Epoch, s, trees)
	}
}

func seeReleased(t *testing.T, a impl.Server, b impl.Server) bool {
	t.Helper()
	got, want := impl.ReleasedIn(a, b), releasedBy(a, b)
	if got != want {
		t.Fatalf("ReleasedIn(%+v, %+v) = %v, not %v", a, b, got, want)
	}
	return got
}

// seeCopied: what is answered is what the words ask; and P16, where all is copied.
func seeCopied(t *testing.T, s impl.Server, n int64) impl.CopiedResult {
	t.Helper()
	got, want := impl.CopyAll(s, n), copyAllBy(s, n)
	if got.Code != want.Code || got.Steps != want.Steps || !sameServer(got.Server, want.Server) {
		t.Fatalf("CopyAll(%+v, %d) = %+v, not %+v", s, n, got, want)
	}
	if got.Code != impl.OK {
		return got
	}
	now := got.Server
	seeStepped(t, s, now)
	if now.State.Phase != impl.PhaseDual || now.State.Cursor != 256 || !slices.Equal(now.State.New, impl.SlotsOf(s.State.Directory).Slots) || !impl.SameDirectories(now.State.Directory, s.State.Directory) {
		t.Fatalf("CopyAll(%+v, %d) = %+v", s, n, got)
	}
	was := len(s.Log)
	if len(now.Log) != was+int(got.Steps) || !slices.EqualFunc(now.Log[:was], s.Log, bytes.Equal) || now.Safe != s.Safe {
		t.Fatalf("CopyAll(%+v, %d) = %+v by its log", s, n, got)
	}
	for _, data := range now.Log[was:] {
		if impl.ReadOp(data) != (impl.OpResult{Op: opCopy(n)}) {
			t.Fatalf("CopyAll(%+v, %d) did %v", s, n, data)
		}
	}
	return got
}

// worldJournals: heads of one root, of the other one and of both, alone and behind each other, of none to MaxEpochs epochs.
func worldJournals() [][]impl.Op {
	return append(someJournals(),
		[]impl.Op{opStart, opCopy(256), opClose},
		[]impl.Op{opStart, opCopy(256), opOver, opClose},
		[]impl.Op{opPut(3, 1), opStart, opCopy(256), opOver, opClose, opPut(3, 2), opClose},
		[]impl.Op{opPut(3, 1), opStart, opCopy(256), opClose, opBack, opClose},
		[]impl.Op{opPut(3, 1), opStart, opCopy(100), opClose},
		[]impl.Op{opPut(3, 1), opClose, opPut(3, 2), opClose, opPut(77, 1)},
	)
}

func worldServers() []impl.Server {
	var out []impl.Server
	for _, ops := range worldJournals() {
		out = append(out, serverOf(safeBy(ops), ops...))
	}
	return out
}

// brokenServers: each with a fault, of each code that it may have.
func brokenServers() []impl.Server {
	var out []impl.Server
	for _, x := range serverTurns() {
		out = append(out, turnedServer(serverOf(15, wholeMove[:17]...), x.turn))
	}
	return append(out, impl.Server{}, serverOf(0, opClose), serverOf(2, opClose), serverOf(0, opPut(3, 2)), serverOf(0, opBack))
}

// stepTurn: a step with a fault.
type stepTurn struct {
	name string
	x    impl.Step
	code int64
}

func badSteps() []stepTurn {
	bob := by(3, 1, 7)
	return []stepTurn{
		{"nothing", impl.Step{}, impl.ErrForm},
		{"the kind 7", impl.Step{Op: impl.Op{Kind: 7}}, impl.ErrForm},
		{"the kind -1", impl.Step{Op: impl.Op{Kind: -1}}, impl.ErrForm},
		{"a start with an N", impl.Step{Op: impl.Op{Kind: impl.OpStart, N: 1}}, impl.ErrForm},
		{"a copy of 0", impl.Step{Op: opCopy(0)}, impl.ErrRange},
		{"a copy of 257", impl.Step{Op: opCopy(257)}, impl.ErrRange},
		{"a secret of 1000", impl.Step{Op: impl.Op{Kind: impl.OpUpdate, Record: bob, Secret: 1000}}, impl.ErrRange},
		{"a long label", impl.Step{Op: impl.Op{Kind: impl.OpUpdate, Record: impl.Record{Label: "abcdefghijklm"}}}, impl.ErrMany},
		{"a label with a blank", impl.Step{Op: impl.Op{Kind: impl.OpUpdate, Record: impl.Record{Label: "a b"}}}, impl.ErrText},
		{"a label that is not folded", impl.Step{Op: impl.Op{Kind: impl.OpUpdate, Record: impl.Record{Label: "Bob"}}}, impl.ErrForm},
		{"the version 0", impl.Step{Op: impl.Op{Kind: impl.OpUpdate, Record: impl.Record{Label: "bob"}}}, impl.ErrRange},
		{"a start with Keep", impl.Step{Keep: 1, Op: opStart}, impl.ErrForm},
		{"a start with Keep -1", impl.Step{Keep: -1, Op: opStart}, impl.ErrForm},
		{"a start with Keep 100", impl.Step{Keep: 100, Op: opStart}, impl.ErrForm},
		{"a close with Keep", impl.Step{Keep: 99, Op: opClose}, impl.ErrForm},
		{"nothing with Keep", impl.Step{Keep: 1}, impl.ErrForm},
		{"a copy of 0 with Keep", impl.Step{Keep: 1, Op: opCopy(0)}, impl.ErrForm},
		{"a label with a blank, with Keep", impl.Step{Keep: 1, Op: impl.Op{Kind: impl.OpUpdate, Record: impl.Record{Label: "a b"}}}, impl.ErrForm},
		{"a crash with Keep -1", crashWith(-1), impl.ErrRange},
		{"a crash with Keep 100", crashWith(100), impl.ErrRange},
		{"a crash with a start", impl.Step{Crash: true, Op: opStart}, impl.ErrForm},
		{"a crash with a kind that is none", impl.Step{Crash: true, Op: impl.Op{Kind: 7}}, impl.ErrForm},
		{"a crash with a copy of 0", impl.Step{Crash: true, Op: opCopy(0)}, impl.ErrForm},
		{"a crash with a long label", impl.Step{Crash: true, Op: impl.Op{Record: impl.Record{Label: "abcdefghijklm"}}}, impl.ErrForm},
		{"a crash with a start, and Keep 100", impl.Step{Crash: true, Keep: 100, Op: opStart}, impl.ErrForm},
		{"a crash with a start, and Keep -1", impl.Step{Crash: true, Keep: -1, Op: opStart}, impl.ErrForm},
	}
}

func TestWorldConstants(t *testing.T) {
	if impl.MaxSteps != 24 {
		t.Error("the constant of chapter 15")
	}
}

// Each code alone, and several at once: the one that is asked first tells.
func TestStepFaultCodes(t *testing.T) {
	s := serverOf(2, wholeMove[:6]...)
	for _, x := range badSteps() {
		if got := seeStep(t, s, x.x); !noServer(got, x.code) || impl.StepFault(x.x) != x.code {
			t.Errorf("%s: DoStep = %+v, not code %d", x.name, got, x.code)
		}
	}
	for keep := int64(-3); keep < 110; keep++ {
		code := int64(impl.OK)
		if keep < 0 || keep > 99 {
			code = impl.ErrRange
		}
		if got := seeStep(t, s, crashWith(keep)); got.Code != code || impl.StepFault(crashWith(keep)) != code {
			t.Errorf("a crash with %d left: %+v, not code %d", keep, got, code)
		}
	}
	for _, keep := range farNumbers {
		for _, o := range []impl.Op{opPut(3, 1), opStart, opCopy(1), opBack, opOver, opClose} {
			if got := impl.StepFault(impl.Step{Keep: keep, Op: o}); got != formUnless(keep == 0) {
				t.Errorf("%+v with Keep %d: %d", o, keep, got)
			}
		}
	}
}

// What a crash has not: each field of an operation alone.
func TestStepFaultCrashWithAnOperation(t *testing.T) {
	for name, turn := range map[string]func(o *impl.Op){
		"a kind":    func(o *impl.Op) { o.Kind = impl.OpClose },
		"a label":   func(o *impl.Op) { o.Record.Label = "x" },
		"a version": func(o *impl.Op) { o.Record.Version = 2 },
		"an owner":  func(o *impl.Op) { o.Record.Owner = 2 },
		"a pin":     func(o *impl.Op) { o.Record.Pin = 2 },
		"a secret":  func(o *impl.Op) { o.Secret = 2 },
		"an N":      func(o *impl.Op) { o.N = 2 },
	} {
		for _, keep := range []int64{math.MinInt64, -1, 0, 1, 99, 100, math.MaxInt64} {
			x := crashWith(keep)
			turn(&x.Op)
			if got := impl.StepFault(x); got != impl.ErrForm || stepCode(x) != impl.ErrForm {
				t.Errorf("a crash with %d left and %s: %d", keep, name, got)
			}
		}
	}
}

// Operations of all kinds and faults, as steps: their own code, but where Keep or a crash stands beside them.
func TestStepFaultAll(t *testing.T) {
	codes := map[int64]int{}
	for _, o := range someOps() {
		for _, keep := range []int64{math.MinInt64, -1, 0, 1, 99, 100} {
			for _, crash := range []bool{true, false} {
				x := impl.Step{Crash: crash, Keep: keep, Op: o}
				got := impl.StepFault(x)
				if want := stepCode(x); got != want {
					t.Fatalf("StepFault(%+v) = %d, not %d", x, got, want)
				}
				codes[got]++
			}
		}
		if got := impl.StepFault(impl.Step{Op: o}); got != impl.OpFault(o) {
			t.Fatalf("StepFault(%+v) = %d, but OpFault = %d", o, got, impl.OpFault(o))
		}
	}
	for _, code := range []int64{impl.OK, impl.ErrForm, impl.ErrMany, impl.ErrRange, impl.ErrText} {
		if codes[code] < 5 {
			t.Errorf("code %d seen %d times alone: %v", code, codes[code], codes)
		}
	}
}

// By hand: a move with crashes ahead of the cut and behind it, step by step and in a row.
func TestWorldExamples(t *testing.T) {
	s := impl.NewServer().Server
	var list []impl.Step
	var codes []int64
	for at, x := range []struct {
		x      impl.Step
		code   int64
		phase  int64
		cursor int64
		heads  int
		log    int
		safe   int64
	}{
		{impl.Step{Op: opPut(3, 1)}, impl.OK, 1, 0, 0, 1, 0},
		{impl.Step{Op: opClose}, impl.OK, 1, 0, 1, 2, 2},
		{impl.Step{Op: opStart}, impl.OK, 2, 0, 1, 3, 2},
		{impl.Step{Op: opCopy(100)}, impl.OK, 2, 100, 1, 4, 2},
		{impl.Step{Op: opClose}, impl.OK, 2, 100, 2, 5, 5},
		{impl.Step{Op: opPut(3, 2)}, impl.OK, 2, 100, 2, 6, 5},
		{crashWith(0), impl.OK, 2, 100, 2, 5, 5},
		{impl.Step{Op: opPut(3, 3)}, impl.ErrVersion, 2, 100, 2, 5, 5},
		{impl.Step{Op: opCopy(100)}, impl.OK, 2, 200, 2, 6, 5},
		{impl.Step{Op: opCopy(100)}, impl.OK, 3, 256, 2, 7, 5},
		{impl.Step{Op: opOver}, impl.OK, 4, 256, 2, 8, 5},
		{crashWith(100), impl.ErrRange, 4, 256, 2, 8, 5},
		{crashWith(1), impl.OK, 2, 200, 2, 6, 6},
		{impl.Step{Op: opStart}, impl.ErrState, 2, 200, 2, 6, 6},
		{impl.Step{Op: opCopy(256)}, impl.OK, 3, 256, 2, 7, 6},
		{impl.Step{Op: opClose}, impl.OK, 3, 256, 3, 8, 8},
		{impl.Step{Op: opOver}, impl.OK, 4, 256, 3, 9, 8},
		{impl.Step{Op: opClose}, impl.OK, 4, 256, 4, 10, 10},
		{impl.Step{Op: opPut(77, 1)}, impl.OK, 4, 256, 4, 11, 10},
		{impl.Step{Keep: 1, Op: opPut(77, 2)}, impl.ErrForm, 4, 256, 4, 11, 10},
		{crashWith(0), impl.OK, 4, 256, 4, 10, 10},
		{impl.Step{Op: opBack}, impl.ErrState, 4, 256, 4, 10, 10},
		{impl.Step{Op: opPut(3, 2)}, impl.OK, 4, 256, 4, 11, 10},
		{crashWith(99), impl.OK, 4, 256, 4, 11, 11},
	} {
		list, codes = append(list, x.x), append(codes, x.code)
		did := seeStep(t, s, x.x)
		if did.Code == impl.OK {
			s = did.Server
		}
		is := s.State
		if did.Code != x.code || is.Phase != x.phase || is.Cursor != x.cursor || len(is.Heads) != x.heads || len(s.Log) != x.log || s.Safe != x.safe {
			t.Fatalf("step %d: %+v, then %+v", at, did, s)
		}
		row := seeRun(t, impl.NewServer().Server, list)
		if !slices.Equal(row.Codes, codes) || !sameServer(row.Server, s) {
			t.Fatalf("%d steps in a row: %+v, not %+v", at+1, row, s)
		}
		seeWorld(t, s, keyLabels[3][0], keyLabels[77][0], keyLabels[3][1], "bob", "a b")
	}
	var phases []int64
	for _, h := range s.State.Heads {
		phases = append(phases, h.Phase)
	}
	if !slices.Equal(phases, []int64{1, 2, 3, 4}) || s.State.Directory.Records[0] != by(3, 2, secretOf(3)) {
		t.Errorf("%+v", s.State)
	}
}

// All kinds of steps, with what may be done and what may not, by servers of all kinds.
func TestDoStepAll(t *testing.T) {
	codes := map[int64]int{}
	crashes := 0
	for _, s := range slices.Concat(fewServers(), worldServers()) {
		for at, o := range opsFor(s.State) {
			codes[seeStep(t, s, impl.Step{Op: o}).Code]++
			if at%4 == 0 {
				codes[seeStep(t, s, impl.Step{Keep: 1, Op: o}).Code]++
			}
		}
		loose := int64(len(s.Log)) - s.Safe
		for _, keep := range []int64{-1, 0, 1, 2, 99, 100, loose - 1, loose, loose + 1} {
			got := seeStep(t, s, crashWith(keep))
			if got.Code == impl.OK && got.Server.Safe != s.Safe+min(keep, loose) {
				t.Fatalf("a crash of %+v with %d left: %+v", s, keep, got)
			}
			crashes++
		}
	}
	for _, code := range []int64{impl.OK, impl.ErrForm, impl.ErrRange, impl.ErrText, impl.ErrTaken, impl.ErrVersion, impl.ErrOwner, impl.ErrState, impl.ErrFull} {
		if codes[code] == 0 {
			t.Errorf("code %d was not seen: %v", code, codes)
		}
	}
	if crashes < 200 {
		t.Errorf("%d crashes alone", crashes)
	}
}

// A step does what DoServer and CrashServer do.
func TestDoStepAsTheJournal(t *testing.T) {
	for _, s := range append(fewServers(), brokenServers()...) {
		for _, o := range []impl.Op{opStart, opCopy(100), opBack, opOver, opClose, opPut(200, 1)} {
			if got, want := impl.DoStep(s, impl.Step{Op: o}), impl.DoServer(s, o); got.Code != want.Code || !impl.SameServers(got.Server, want.Server) {
				t.Fatalf("DoStep(%+v, %+v) = %+v, but DoServer = %+v", s, o, got, want)
			}
		}
		for _, keep := range []int64{0, 1, 5, 99} {
			if got, want := impl.DoStep(s, crashWith(keep)), impl.CrashServer(s, keep); got.Code != want.Code || !impl.SameServers(got.Server, want.Server) {
				t.Fatalf("DoStep(%+v) with %d left = %+v, but CrashServer = %+v", s, keep, got, want)
			}
		}
	}
}

// The fault of the server, then that of the step, then whether there is room, then whether it may be done.
func TestDoStepOrderOfCodes(t *testing.T) {
	for _, s := range []impl.Server{serverOf(2, wholeMove[:5]...), serverOf(15, wholeMove[:17]...)} {
		for _, x := range serverTurns() {
			bad := turnedServer(s, x.turn)
			for _, y := range badSteps() {
				if got := seeStep(t, bad, y.x); !noServer(got, x.code) {
					t.Fatalf("%s, %s: DoStep = %+v, not code %d", x.name, y.name, got, x.code)
				}
			}
			for _, y := range append(stepsOf(opClose, opStart, opPut(9, 1)), crashWith(0), crashWith(99)) {
				if got := seeStep(t, bad, y); !noServer(got, x.code) {
					t.Fatalf("%s: DoStep(%+v) = %+v, not code %d", x.name, y, got, x.code)
				}
			}
		}
	}
	full := serverOf(35, fullJournal()...)
	for _, y := range badSteps() {
		if got := seeStep(t, full, y.x); !noServer(got, y.code) {
			t.Errorf("%s, and no room: DoStep = %+v, not code %d", y.name, got, y.code)
		}
	}
	for _, o := range []impl.Op{opPut(69, 9), opStart, opCopy(1), opBack, opOver, opClose} {
		if got := seeStep(t, full, impl.Step{Op: o}); !noServer(got, impl.ErrFull) {
			t.Errorf("%+v, and no room: DoStep = %+v", o, got)
		}
	}
	if got := seeStep(t, full, crashWith(0)); got.Code != impl.OK || len(got.Server.Log) != 35 {
		t.Errorf("a crash of a full log: %+v", got)
	}
}

// No steps, 23, 24, 25 and more; too many are not done, and not asked for their faults.
func TestRunStepsMany(t *testing.T) {
	s := serverOf(2, wholeMove[:6]...)
	for _, none := range [][]impl.Step{nil, {}, make([]impl.Step, 0, 9)} {
		for _, s := range append(fewServers(), worldServers()...) {
			got := seeRun(t, s, none)
			if got.Code != impl.OK || len(got.Codes) != 0 || !sameServer(got.Server, s) {
				t.Fatalf("no steps: RunSteps(%+v) = %+v", s, got)
			}
		}
	}
	row := stepsOf(slices.Repeat([]impl.Op{opBack, opStart}, 20)...)
	for _, n := range []int{1, 2, 22, 23, 24} {
		got := seeRun(t, s, row[:n])
		if got.Code != impl.OK || len(got.Codes) != n || len(got.Server.Log) != 6+n || slices.Contains(got.Codes, impl.ErrState) {
			t.Errorf("%d steps: %+v", n, got)
		}
		if got := seeRun(t, s, make([]impl.Step, n)); !slices.Equal(got.Codes, slices.Repeat([]int64{impl.ErrForm}, n)) || !sameServer(got.Server, s) {
			t.Errorf("%d steps that are none: %+v", n, got)
		}
	}
	for _, n := range []int{25, 26, 40} {
		if got := seeRun(t, s, row[:n]); !noRun(got, impl.ErrMany) {
			t.Errorf("%d steps: %+v", n, got)
		}
	}
	for _, n := range []int{25, 256, 1000000} {
		if got := impl.RunSteps(s, make([]impl.Step, n)); !noRun(got, impl.ErrMany) {
			t.Errorf("%d steps that are none: %+v", n, got)
		}
	}
	for _, x := range serverTurns() {
		bad := turnedServer(s, x.turn)
		for _, n := range []int{0, 1, 24, 25, 30} {
			if got := seeRun(t, bad, row[:n]); !noRun(got, x.code) {
				t.Errorf("%s, %d steps: %+v, not code %d", x.name, n, got, x.code)
			}
			if got := seeRun(t, bad, make([]impl.Step, n)); !noRun(got, x.code) {
				t.Errorf("%s, %d steps that are none: %+v, not code %d", x.name, n, got, x.code)
			}
		}
	}
}

// Steps with a code in a row of others: each one at each place turns nothing, and leaves the codes of the others.
func TestRunStepsWithCodes(t *testing.T) {
	s := impl.NewServer().Server
	row := stepsOf(wholeMove[:20]...)
	plain := seeRun(t, s, row)
	if !slices.Equal(plain.Codes, make([]int64, 20)) {
		t.Fatalf("RunSteps(%+v) = %+v", row, plain)
	}
	for at := range len(row) + 1 {
		for _, x := range badSteps() {
			got := impl.RunSteps(s, slices.Insert(slices.Clone(row), at, x.x))
			if !slices.Equal(got.Codes, slices.Insert(make([]int64, 20), at, x.code)) || !sameServer(got.Server, plain.Server) {
				t.Fatalf("%s at %d: RunSteps = %+v", x.name, at, got)
			}
		}
	}
	// What may not be done by now: of each code that an operation may have.
	may := map[int64]int{}
	for at := range len(row) + 1 {
		is := seeRun(t, s, row[:at]).Server
		for _, o := range []impl.Op{opStart, opBack, opOver, opCopy(256), opPut(3, 9), {Kind: 1, Record: by(3, 2, 5), Secret: 5}, {Kind: 1, Record: impl.Record{Label: keyLabels[3][1], Version: 1, Owner: ownerBy(5)}, Secret: 5}} {
			code := doServerBy(is, o).Code
			may[code]++
			if code == impl.OK {
				continue
			}
			got := seeRun(t, s, slices.Insert(slices.Clone(row), at, impl.Step{Op: o}))
			if !slices.Equal(got.Codes, slices.Insert(make([]int64, 20), at, code)) || !sameServer(got.Server, plain.Server) {
				t.Fatalf("%+v at %d: RunSteps = %+v", o, at, got)
			}
		}
	}
	for _, code := range []int64{impl.OK, impl.ErrState, impl.ErrVersion, impl.ErrOwner, impl.ErrTaken} {
		if may[code] < 5 {
			t.Errorf("code %d seen %d times alone: %v", code, may[code], may)
		}
	}
	// A row of those with a code alone.
	var bad []impl.Step
	var codes []int64
	for _, x := range badSteps()[:24] {
		bad, codes = append(bad, x.x), append(codes, x.code)
	}
	for _, s := range fewServers() {
		if got := seeRun(t, s, bad); !slices.Equal(got.Codes, codes) || !sameServer(got.Server, s) {
			t.Fatalf("steps that are none: RunSteps(%+v) = %+v", s, got)
		}
	}
}

// A log that is full by the steps: what comes behind has ErrFull, until a crash makes room.
func TestRunStepsFull(t *testing.T) {
	ops := fullJournal()
	s := serverOf(safeBy(ops[:37]), ops[:37]...)
	list := append(stepsOf(append(slices.Clone(ops[37:]), opPut(92, 3), opPut(115, 3), opClose)...), crashWith(2), impl.Step{Op: opPut(46, 3)}, crashWith(0), impl.Step{Op: opPut(46, 3)})
	got := seeRun(t, s, list)
	if !slices.Equal(got.Codes, []int64{0, 0, 0, impl.ErrFull, impl.ErrFull, impl.ErrFull, 0, 0, 0, 0}) || len(got.Server.Log) != 38 || got.Server.Safe != 37 {
		t.Errorf("RunSteps = %+v", got)
	}
}

// A row of steps is what its two parts are, wherever it is cut.
func TestRunStepsInParts(t *testing.T) {
	rows := [][]impl.Step{stepsOf(wholeMove...)}
	for walk := range uint32(6) {
		rows = append(rows, rolledSteps(walk, 24))
	}
	for _, row := range rows {
		s := serverOf(2, wholeMove[:3]...)
		whole := seeRun(t, s, row)
		for at := range len(row) + 1 {
			first := impl.RunSteps(s, row[:at])
			then := impl.RunSteps(first.Server, row[at:])
			if first.Code != impl.OK || then.Code != impl.OK || !slices.Equal(slices.Concat(first.Codes, then.Codes), whole.Codes) || !sameServer(then.Server, whole.Server) {
				t.Fatalf("cut at %d: %+v, %+v, not %+v", at, first, then, whole)
			}
		}
	}
}

// rolledSteps: steps of a history that is thrown by the number of the walk; some with a code among them.
func rolledSteps(walk uint32, n int) []impl.Step {
	dice := walk*2654435761 + 1515
	roll := func(n int64) int64 {
		dice = dice*1664525 + 1013904223
		return int64(dice>>8) % n
	}
	is := serverOf(2, wholeMove[:3]...)
	var out []impl.Step
	for range n {
		x := impl.Step{Op: opOf(rolled(is.State, roll))}
		switch roll(12) {
		case 0:
			x = crashWith(roll(5))
		case 1:
			bad := badSteps()
			x = bad[roll(int64(len(bad)))].x
		}
		if did := stepBy(is, x); did.Code == impl.OK {
			is = did.Server
		}
		out = append(out, x)
	}
	return out
}

// P16: at each beginning of a move, a crash that leaves nothing of what is not safe, some of it and all of it; and on.
func TestP16CrashAnywhere(t *testing.T) {
	lost, cut := 0, 0
	for n := range len(wholeMove) + 1 {
		s := seeRun(t, impl.NewServer().Server, stepsOf(wholeMove[:n]...)).Server
		loose := int64(n) - s.Safe
		for keep := range loose + 2 {
			left := s.Safe + min(keep, loose)
			list := append([]impl.Step{crashWith(keep)}, stepsOf(wholeMove[left:]...)...)
			got := seeRun(t, s, list[:min(len(list), 24)])
			if slices.ContainsFunc(got.Codes, func(code int64) bool { return code != impl.OK }) {
				t.Fatalf("%d of the move, a crash with %d left, and on: %+v", n, keep, got)
			}
			for _, x := range list[min(len(list), 24):] {
				got.Server = seeStep(t, got.Server, x).Server
			}
			if !impl.SameStates(got.Server.State, replayBy(logOf(wholeMove...)).State) {
				t.Fatalf("%d of the move, a crash with %d left, and on: %+v", n, keep, got)
			}
			crashed := seeStep(t, s, crashWith(keep)).Server
			seeWorld(t, crashed, keyLabels[3][0], keyLabels[252][0])
			if keep < loose {
				lost++
			}
			// Behind a cut that was published nothing leads back.
			if heads := s.State.Heads; len(heads) > 0 && heads[len(heads)-1].Phase == impl.PhaseCutOver {
				cut++
				if crashed.State.Phase != impl.PhaseCutOver {
					t.Fatalf("a crash behind the cut: %+v", crashed)
				}
			}
		}
	}
	if lost < 20 || cut < 5 {
		t.Errorf("%d crashes that lost something, %d behind the cut alone", lost, cut)
	}
}

// P16 along histories of steps, crashes and rows of both: all heads that were published stay, all roots and answers are right.
func TestP16Histories(t *testing.T) {
	seen := map[string]int{}
	for walk := range uint32(12) {
		s := serverOf(2, wholeMove[:3]...)
		servers := []impl.Server{s}
		for part, row := range slices.Collect(slices.Chunk(rolledSteps(walk+100, 60), 9)) {
			got := seeRun(t, s, row)
			for at, x := range row {
				seen[fmt.Sprint("crash ", x.Crash, " ", got.Codes[at] == impl.OK)]++
			}
			s = got.Server
			seen[fmt.Sprint("phase ", s.State.Phase)]++
			labels := []string{keyLabels[int64(part)*255/7][0], keyLabels[3][0], keyLabels[3][1], strings.ToUpper(keyLabels[255][0])}
			seeWorld(t, s, labels...)
			for _, was := range servers {
				seeStepped(t, was, s)
			}
			servers = append(servers, s)
		}
		for _, h := range s.State.Heads {
			seen[fmt.Sprint("forms ", impl.FormsOf(h).Value)]++
		}
		// Where a move is under way, it comes to its end, or there is no room.
		for _, was := range servers {
			for _, n := range []int64{1, 37, 256} {
				seen[fmt.Sprint("copied ", seeCopied(t, was, n).Code)]++
			}
		}
	}
	for _, what := range []string{"crash true true", "crash true false", "crash false true", "crash false false", "phase 2", "phase 4", "forms 1", "forms 2", "forms 3", "copied 0", "copied 10"} {
		if seen[what] < 3 {
			t.Errorf("%s: seen %d times alone: %v", what, seen[what], seen)
		}
	}
}

// P16: each label in each epoch: what is there, what is not, and what another label of the key has; folded and not.
func TestP16EachLabel(t *testing.T) {
	there, not, other := 0, 0, 0
	for at, s := range worldServers() {
		labels := clientLabels(s.State)
		if len(s.Log) > 30 {
			labels = labels[at%3 : len(labels)/2]
		}
		seeWorld(t, s, labels...)
		for _, label := range labels {
			if !impl.AnswersRight(s, label) {
				t.Fatalf("AnswersRight(%+v, %q)", s, label)
			}
			for _, d := range s.State.Past {
				switch r, held := atKey(d, keyBy(label)); {
				case held && r.Label == foldedBy(label):
					there++
				case held:
					other++
				default:
					not++
				}
			}
		}
	}
	if there < 100 || not < 100 || other < 100 {
		t.Errorf("%d there, %d not there and %d of another label alone", there, not, other)
	}
}

// P16: in epochs of one root, of the other one and of both: all keys there are.
func TestP16EachKey(t *testing.T) {
	s := serverOf(19, wholeMove[:19]...)
	forms := map[int64]bool{}
	for _, h := range s.State.Heads {
		forms[impl.FormsOf(h).Value] = true
	}
	if len(forms) != 3 {
		t.Fatalf("%+v", s.State.Heads)
	}
	x := knownOf(s)
	for key := range int64(256) {
		for _, label := range keyLabels[key][:2] {
			if !impl.AnswersRight(s, label) || !x.answersBy(label) {
				t.Fatalf("AnswersRight(%+v, %q)", s, label)
			}
		}
	}
	for _, h := range s.State.Heads {
		for _, key := range []int64{0, 3, 77, 99, 100, 252, 255} {
			seeEpochAnswers(t, s.State, h, keyLabels[key][0])
		}
	}
}

// A label with a fault has no right answers; one without has, also where there is no head.
func TestAnswersRightLabels(t *testing.T) {
	for _, s := range append(fewServers(), serverOf(1, opClose), serverOf(4, opStart, opCopy(256), opOver, opClose)) {
		for _, label := range noLabels {
			if impl.AnswersRight(s, label) || labelCode(label) == impl.OK {
				t.Errorf("AnswersRight(%+v, %q)", s, label)
			}
		}
		for _, label := range slices.Concat(goodLabels, notFolded) {
			if !impl.AnswersRight(s, label) {
				t.Errorf("not AnswersRight(%+v, %q)", s, label)
			}
		}
		seeWorld(t, s, "", "bob", "a b", "BOB")
	}
}

// A server with a fault: nothing of it is right, whichever fault it is; also where its state has none.
func TestWorldServerFaults(t *testing.T) {
	good := serverOf(15, wholeMove[:17]...)
	label := keyLabels[3][0]
	if !impl.RootsRight(good) || !impl.AnswersRight(good, label) || !seeReleased(t, good, good) {
		t.Fatalf("%+v", good)
	}
	codes := map[int64]int{}
	for _, bad := range brokenServers() {
		code := serverCode(bad)
		codes[code]++
		if code == impl.OK {
			t.Fatalf("%+v has no fault", bad)
		}
		seeWorld(t, bad, label, "", "bob")
		if impl.RootsRight(bad) || impl.AnswersRight(bad, label) {
			t.Errorf("%+v of the fault %d is right", bad, code)
		}
		if seeReleased(t, bad, good) || seeReleased(t, good, bad) || seeReleased(t, bad, bad) || seeReleased(t, impl.NewServer().Server, bad) {
			t.Errorf("ReleasedIn of the fault %d", code)
		}
		if got := seeRun(t, bad, stepsOf(opClose)); !noRun(got, code) {
			t.Errorf("RunSteps of the fault %d: %+v", code, got)
		}
		for _, n := range []int64{-1, 0, 1, 100, 256, 257} {
			if got := seeCopied(t, bad, n); !noCopied(got, code) {
				t.Errorf("CopyAll of the fault %d: %+v", code, got)
			}
		}
		seeStep(t, bad, crashWith(0))
	}
	for _, code := range []int64{impl.ErrMany, impl.ErrRange, impl.ErrText, impl.ErrTaken, impl.ErrVersion, impl.ErrOwner, impl.ErrState} {
		if codes[code] == 0 {
			t.Errorf("code %d was not seen: %v", code, codes)
		}
	}
}

// Heads and directories that the log does not tell, though they are a chain with the right roots: nothing is right.
func TestWorldOfAnotherLog(t *testing.T) {
	servers := fewServers()
	for at, a := range servers {
		for other, b := range servers {
			if at == other {
				continue
			}
			mixed := impl.Server{State: b.State, Log: a.Log, Safe: a.Safe}
			seeWorld(t, mixed, keyLabels[3][0])
			if impl.RootsRight(mixed) || impl.AnswersRight(mixed, keyLabels[3][0]) || impl.ReleasedIn(mixed, mixed) {
				t.Fatalf("%+v is right", mixed)
			}
		}
	}
	s := servers[len(servers)-2]
	for at, state := range oneThing(s.State) {
		if at%5 == 0 {
			seeWorld(t, impl.Server{State: state, Log: s.Log, Safe: s.Safe}, keyLabels[3][0])
		}
	}
}

// P16: each server of a move, and what it is behind more steps; the other way round as long as no head was published.
func TestP16Released(t *testing.T) {
	var servers []impl.Server
	for n := range len(wholeMove) + 1 {
		servers = append(servers, serverOf(safeBy(wholeMove[:n]), wholeMove[:n]...))
	}
	longer := 0
	for at, a := range servers {
		for behind, b := range servers {
			got := seeReleased(t, a, b)
			if want := at <= behind || len(a.State.Heads) == len(b.State.Heads); got != want {
				t.Fatalf("ReleasedIn, %d and %d of the move: %v", at, behind, got)
			}
			if !got {
				longer++
			}
		}
		for keep := range int64(4) {
			crashed := seeStep(t, a, crashWith(keep)).Server
			if !seeReleased(t, a, crashed) || !seeReleased(t, crashed, a) {
				t.Fatalf("a crash of %+v took back a head: %+v", a, crashed)
			}
		}
		if !seeReleased(t, impl.NewServer().Server, a) || seeReleased(t, a, impl.NewServer().Server) != (len(a.State.Heads) == 0) {
			t.Fatalf("ReleasedIn of no head and %+v", a)
		}
	}
	if longer < 100 {
		t.Errorf("%d with a head too many alone", longer)
	}
}

// Servers of which neither was the other one: they part at the first head, in the middle, or at the last one.
func TestReleasedInOthers(t *testing.T) {
	begin := []impl.Op{opPut(3, 1), opClose, opStart, opCopy(256), opClose, opPut(9, 1), opClose}
	s := serverOf(safeBy(begin), begin...)
	parted := map[string][]impl.Op{
		"another record first":  {opPut(4, 1), opClose, opStart, opCopy(256), opClose, opPut(9, 1), opClose},
		"no record first":       {opClose, opPut(3, 1), opStart, opCopy(256), opClose, opPut(9, 1), opClose},
		"another phase":         {opPut(3, 1), opClose, opStart, opCopy(255), opClose, opPut(9, 1), opClose},
		"another phase first":   {opPut(3, 1), opStart, opClose, opCopy(256), opClose, opPut(9, 1), opClose},
		"another last one":      {opPut(3, 1), opClose, opStart, opCopy(256), opClose, opPut(9, 1), opPut(9, 2), opClose},
		"a last one of the cut": {opPut(3, 1), opClose, opStart, opCopy(256), opClose, opPut(9, 1), opOver, opClose},
		"turned back":           {opPut(3, 1), opClose, opStart, opCopy(256), opClose, opPut(9, 1), opBack, opClose},
	}
	for name, ops := range parted {
		for _, more := range [][]impl.Op{nil, {opClose}, {opPut(100, 1), opClose, opClose}} {
			all := slices.Concat(ops, more)
			other := serverOf(safeBy(all), all...)
			if seeReleased(t, s, other) || seeReleased(t, other, s) {
				t.Errorf("%s: ReleasedIn(%+v, %+v)", name, s, other)
			}
		}
	}
	// By other ways to the same head: the logs and the states part, the head does not.
	a, b := serverOf(4, opStart, opCopy(100), opCopy(156), opClose), serverOf(3, opStart, opCopy(256), opClose, opPut(3, 1))
	if !seeReleased(t, a, b) || !seeReleased(t, b, a) {
		t.Errorf("the same head by other logs: %+v, %+v", a, b)
	}
	// The same directory, in another phase.
	back := serverOf(4, opPut(3, 1), opStart, opBack, opClose)
	if idle := serverOf(2, begin[:2]...); seeReleased(t, idle, back) || seeReleased(t, back, idle) {
		t.Errorf("a head of another phase: %+v, %+v", idle, back)
	}
}

// Two first heads of one sum: all that stands behind them is the same, and they are not.
func TestReleasedInOneSum(t *testing.T) {
	first := func(pin int64) []impl.Op {
		r := by(3, 1, 5)
		r.Pin = pin
		next := by(3, 2, 5)
		return []impl.Op{{Kind: impl.OpUpdate, Record: r, Secret: 5}, opClose, {Kind: impl.OpUpdate, Record: next, Secret: 5}, opClose, opClose}
	}
	pins, roots := map[int64]int64{}, map[int64]int64{}
	for pin := range int64(20000) {
		ops := first(pin)
		r := ops[0].Record
		h := headForBy(impl.Directory{Records: []impl.Record{r}}, 1, 1, 0).Head
		sum := sumBack(headPacked(h))
		was, taken := pins[sum]
		if !taken {
			pins[sum], roots[sum] = pin, h.Old
			continue
		}
		if roots[sum] == h.Old {
			continue
		}
		a, b := serverOf(5, first(was)...), serverOf(5, ops...)
		if impl.ServerFault(a) != impl.OK || impl.ServerFault(b) != impl.OK || !slices.Equal(a.State.Heads[1:], b.State.Heads[1:]) || a.State.Heads[0] == b.State.Heads[0] {
			t.Fatalf("%+v and %+v", a, b)
		}
		if seeReleased(t, a, b) || seeReleased(t, b, a) || seeReleased(t, serverOf(2, first(was)[:2]...), b) {
			t.Fatalf("ReleasedIn of two first heads of one sum: %+v, %+v", a.State.Heads, b.State.Heads)
		}
		return
	}
	t.Error("no two heads of one sum")
}

// By hand: how often, by n that divide what is left, and that leave a rest.
func TestCopyAllExamples(t *testing.T) {
	began := serverOf(1, opPut(3, 1), opStart)
	under := serverOf(1, opPut(3, 1), opStart, opCopy(100), opPut(99, 1), opPut(101, 1))
	late := serverOf(0, opStart, opCopy(230))
	for _, x := range []struct {
		s    impl.Server
		n    int64
		want int64
	}{
		{began, 256, 1}, {began, 255, 2}, {began, 129, 2}, {began, 128, 2}, {began, 127, 3}, {began, 100, 3}, {began, 64, 4}, {began, 7, 37},
		{under, 256, 1}, {under, 156, 1}, {under, 155, 2}, {under, 78, 2}, {under, 77, 3}, {under, 100, 2}, {under, 5, 32},
		{late, 1, 26}, {late, 2, 13}, {late, 25, 2}, {late, 26, 1}, {late, 27, 1}, {late, 256, 1}, {late, 7, 4},
	} {
		if got := seeCopied(t, x.s, x.n); got.Code != impl.OK || got.Steps != x.want || got.Server.State.Phase != impl.PhaseDual {
			t.Errorf("CopyAll(%+v, %d) = %+v, not %d steps", x.s, x.n, got, x.want)
		}
	}
	for _, n := range []int64{1, 2, 3, 6} {
		if got := seeCopied(t, began, n); !noCopied(got, impl.ErrFull) {
			t.Errorf("CopyAll(%+v, %d) = %+v", began, n, got)
		}
	}
}

// P16: each n, from a move that just began and from some that are under way: to its end, or there is no room.
func TestP16CopyAll(t *testing.T) {
	servers := []impl.Server{
		serverOf(0, opStart),
		serverOf(1, opPut(3, 1), opStart),
		serverOf(2, wholeMove[:5]...),
		serverOf(7, wholeMove[:11]...),
		serverOf(7, wholeMove[:13]...),
		serverOf(0, opStart, opCopy(255)),
		serverOf(0, opStart, opCopy(128), opBack, opStart, opPut(200, 1)),
	}
	done, full := 0, 0
	for _, s := range servers {
		left := 256 - s.State.Cursor
		for n := int64(1); n <= 256; n++ {
			if n > 12 && n%13 > 1 && 256%n > 1 {
				continue
			}
			got := seeCopied(t, s, n)
			need := impl.NeedSteps(s.State, n)
			if need.Code != impl.OK || need.Value != stepsFrom(s.State.Cursor, n) || (need.Value-1)*n >= left {
				t.Fatalf("NeedSteps(%+v, %d) = %+v", s.State, n, need)
			}
			if int64(len(s.Log))+need.Value <= 40 {
				done++
				if got.Code != impl.OK || got.Steps != need.Value {
					t.Fatalf("CopyAll(%+v, %d) = %+v, and there is room", s, n, got)
				}
				continue
			}
			full++
			if !noCopied(got, impl.ErrFull) {
				t.Fatalf("CopyAll(%+v, %d) = %+v, and there is no room", s, n, got)
			}
		}
	}
	if done < 100 || full < 20 {
		t.Errorf("%d copied and %d without room alone", done, full)
	}
}

// A log that has room for just as many copies as are needed, and for one less.
func TestCopyAllRoom(t *testing.T) {
	for _, n := range []int64{1, 5, 7, 8, 10, 50, 100, 256} {
		for need := int64(1); need <= 38; need++ {
			cursor := 256 - (need-1)*n - 1
			if cursor < 1 {
				break
			}
			ops := []impl.Op{opStart, opCopy(cursor)}
			for version := int64(1); int64(len(ops))+need < 40; version++ {
				ops = append(ops, opPut(3, version))
			}
			just := seeCopied(t, serverOf(0, ops...), n)
			if just.Code != impl.OK || just.Steps != need || len(just.Server.Log) != 40 {
				t.Fatalf("%d copies of %d, and room for so many: %+v", need, n, just)
			}
			less := seeCopied(t, serverOf(0, append(ops, opPut(77, 1))...), n)
			if !noCopied(less, impl.ErrFull) {
				t.Fatalf("%d copies of %d, and room for one less: %+v", need, n, less)
			}
		}
	}
}

// The fault of the server, then whether it is copying, then n, then whether there is room.
func TestCopyAllCodes(t *testing.T) {
	full := append([]impl.Op{opStart}, slices.Repeat([]impl.Op{opBack, opStart}, 19)...)
	full = append(full, opCopy(1))
	cases := map[string]struct {
		s    impl.Server
		code int64
	}{
		"a server that is nothing":  {impl.Server{}, impl.ErrState},
		"too many safe":             {serverOf(3, opStart, opCopy(1)), impl.ErrRange},
		"a move that has not begun": {impl.NewServer().Server, impl.ErrState},
		"behind an epoch":           {serverOf(2, wholeMove[:2]...), impl.ErrState},
		"a move that is done":       {serverOf(0, opStart, opCopy(256)), impl.ErrState},
		"behind the cut":            {serverOf(0, opStart, opCopy(256), opOver), impl.ErrState},
		"turned back":               {serverOf(0, opStart, opCopy(9), opBack), impl.ErrState},
		"a full log, done":          {serverOf(35, fullJournal()...), impl.ErrState},
		"a full log, turned back":   {serverOf(0, slices.Repeat([]impl.Op{opStart, opBack}, 20)...), impl.ErrState},
		"copying":                   {serverOf(0, opStart), impl.OK},
		"copying, under way":        {serverOf(7, wholeMove[:13]...), impl.OK},
		"a full log, under way":     {serverOf(0, full...), impl.ErrFull},
	}
	for name, x := range cases {
		for _, n := range slices.Concat(farNumbers, someN) {
			code := x.code
			if (n < 1 || n > 256) && (code == impl.OK || code == impl.ErrFull) {
				code = impl.ErrRange
			}
			if code == impl.OK && n < 8 {
				code = copyAllBy(x.s, n).Code
			}
			got := seeCopied(t, x.s, n)
			if got.Code != code || code != impl.OK && !noCopied(got, code) {
				t.Errorf("%s: CopyAll of %d = %+v, not code %d", name, n, got, code)
			}
		}
	}
	if len(full) != 40 {
		t.Errorf("%d are no full log", len(full))
	}
}

// Updates and epochs between: what is copied is what there is by now.
func TestP16CopyAllBetween(t *testing.T) {
	list := stepsOf(opPut(3, 1), opPut(252, 1), opClose, opStart, opCopy(77), opPut(3, 2), opPut(200, 1), opClose)
	list = append(list, crashWith(0), impl.Step{Op: opPut(252, 2)}, impl.Step{Op: opCopy(50)}, crashWith(1))
	s := seeRun(t, impl.NewServer().Server, list).Server
	for _, n := range []int64{7, 50, 100, 179, 256} {
		got := seeCopied(t, s, n)
		if got.Code != impl.OK || len(got.Server.State.New) != 3 {
			t.Fatalf("CopyAll(%+v, %d) = %+v", s, n, got)
		}
		closed := seeRun(t, got.Server, stepsOf(opClose, opOver, opClose)).Server
		seeWorld(t, closed, keyLabels[3][0], keyLabels[252][0], keyLabels[200][0], keyLabels[3][1], "bob")
		if len(closed.State.Heads) != 4 || closed.State.Heads[2].New != closed.State.Heads[3].New || closed.State.Heads[3].Old != 0 {
			t.Fatalf("%+v", closed)
		}
	}
}

// worldAsked: one call of each function of the chapter.
type worldAsked struct {
	s     impl.Server
	other impl.Server
	x     impl.Step
	list  []impl.Step
	label string
	n     int64
}

func (x worldAsked) told() (impl.ServerResult, impl.StepsResult, impl.CopiedResult) {
	return impl.DoStep(x.s, x.x), impl.RunSteps(x.s, x.list), impl.CopyAll(x.s, x.n)
}

func (x worldAsked) servers() []impl.Server {
	did, ran, copied := x.told()
	return []impl.Server{did.Server, ran.Server, copied.Server}
}

func (x worldAsked) ask() string {
	did, ran, copied := x.told()
	return fmt.Sprint(impl.StepFault(x.x), did, ran, impl.RootsRight(x.s), impl.AnswersRight(x.s, x.label), impl.ReleasedIn(x.s, x.other), copied)
}

func (x worldAsked) copied() worldAsked {
	x.s, x.other, x.list = serverCopy(x.s), serverCopy(x.other), slices.Clone(x.list)
	return x
}

func someWorldsAsked() []worldAsked {
	servers := append(fewServers(), serverOf(0, opPut(3, 1), opStart), serverOf(7, wholeMove[:13]...))
	for _, x := range serverTurns() {
		servers = append(servers, turnedServer(serverOf(7, wholeMove[:8]...), x.turn))
	}
	servers = append(servers, impl.Server{}, impl.Server{State: impl.State{Phase: 2}, Log: [][]byte{{2}}, Safe: 1})
	put := impl.Step{Op: opPut(55, 1)}
	var bad []impl.Step
	for _, x := range badSteps() {
		bad = append(bad, x.x)
	}
	var out []worldAsked
	for at, s := range servers {
		other := servers[(at+1)%len(servers)]
		out = append(out,
			worldAsked{s, s, put, nil, keyLabels[3][0], 256},
			worldAsked{s, other, crashWith(0), []impl.Step{put, {Op: opClose}, {Op: opStart}, {Op: opCopy(100)}, crashWith(1), {Op: opPut(55, 2)}}, keyLabels[3][1], 100},
			worldAsked{s, serverCopy(s), impl.Step{Op: opCopy(50)}, []impl.Step{crashWith(1), {Op: opClose}}, "BOB", 20},
			worldAsked{s, other, crashWith(99), bad[:24], "", 0},
			worldAsked{other, s, impl.Step{Op: opClose}, bad, "a b", 257},
			worldAsked{s, other, impl.Step{}, bad[20:], keyLabels[77][0], -1})
	}
	return out
}

// P1: what is handed in is as it was, with the room around it; and that room is not looked at.
func TestP1WorldArgumentsStay(t *testing.T) {
	for _, x := range someWorldsAsked() {
		given := x
		var list []func() bool
		var sStays, otherStays func() bool
		given.s, sStays = roomyServer(x.s)
		given.other, otherStays = roomyServer(x.other)
		given.list = amid(&list, x.list, impl.Step{Op: opClose}, crashWith(0))
		if got, want := given.ask(), x.ask(); got != want {
			t.Fatalf("%+v with room around: %s, not %s", x, got, want)
		}
		given.other = given.s
		given.ask()
		if !sStays() || !otherStays() || !list[0]() {
			t.Fatalf("%+v turned its arguments: %+v", x, given)
		}
	}
}

// P1: no list, no bytes and no label of an answer stand where those of an argument do, nor where others of it do.
func TestP1WorldAnswersAreNew(t *testing.T) {
	done := 0
	for _, x := range someWorldsAsked() {
		taken := map[unsafe.Pointer]bool{}
		given := append(serverMemory(x.s), labelPlace(x.x.Op.Record)...)
		for _, y := range x.list {
			given = append(given, labelPlace(y.Op.Record)...)
		}
		for _, place := range given {
			taken[place] = true
		}
		did, ran, copied := x.told()
		for name, memory := range map[string][]unsafe.Pointer{"DoStep": serverMemory(did.Server), "RunSteps": append(serverMemory(ran.Server), placesOf(ran.Codes)...), "CopyAll": serverMemory(copied.Server)} {
			for _, place := range memory {
				if taken[place] {
					t.Fatalf("%s of %+v shares memory", name, x)
				}
				taken[place] = true
			}
		}
		for _, code := range []int64{did.Code, ran.Code, copied.Code} {
			if code == impl.OK {
				done++
			}
		}
	}
	if done < 60 {
		t.Errorf("%d calls without a code alone", done)
	}
}

// P1: whatever becomes of an answer, or of what was handed in, the other one stays.
func TestP1WorldSpoilt(t *testing.T) {
	for _, x := range someWorldsAsked() {
		given := x.copied()
		want := given.ask()
		did, ran, copied := given.told()
		told := func() string { return fmt.Sprint(did, ran, copied) }
		was := told()
		for _, s := range given.servers() {
			spoilServer(s)
		}
		if given.ask() != want || told() != was || !sameServer(given.s, x.s) || !sameServer(given.other, x.other) {
			t.Fatalf("%+v: an answer shares with what was handed in, or with another one", x)
		}
		spoilServer(given.s)
		for at := range given.list {
			given.list[at] = impl.Step{Crash: true, Keep: -5}
		}
		if told() != was {
			t.Fatalf("%+v: an answer turned with what was handed in", x)
		}
	}
}

// P1: nil and an empty list are the same value.
func TestP1NoWorld(t *testing.T) {
	state := impl.State{Phase: 1, Directory: impl.Directory{Records: make([]impl.Record, 0, 3)}, New: make([]impl.Slot, 0, 3), Heads: make([]impl.Head, 0, 3), Past: make([]impl.Directory, 0, 3)}
	bare, empty := impl.Server{State: impl.State{Phase: 1}}, impl.Server{State: state, Log: make([][]byte, 0, 3)}
	for _, list := range [][]impl.Step{nil, {}, {crashWith(0)}, stepsOf(opPut(3, 1), opClose)} {
		for _, x := range append(stepsOf(opStart, opClose, opOver, impl.Op{}), crashWith(0), crashWith(100)) {
			a, b := worldAsked{bare, empty, x, list, "bob", 5}, worldAsked{empty, bare, x, slices.Clip(append([]impl.Step{}, list...)), "bob", 5}
			if a.ask() != b.ask() {
				t.Errorf("empty lists: %s, not %s", b.ask(), a.ask())
			}
		}
	}
	if !impl.ReleasedIn(bare, empty) || !impl.ReleasedIn(empty, bare) || !impl.RootsRight(empty) || !impl.AnswersRight(empty, "bob") {
		t.Error("a server of empty lists")
	}
}

func TestP1WorldsHangOnArguments(t *testing.T) {
	seeAgain(t, someWorldsAsked())
}

// P1: many calls at once answer what each one answers alone, and nothing of them goes on behind the answer.
func TestP1WorldsAtOnce(t *testing.T) {
	all := someWorldsAsked()
	var want []string
	for _, x := range all {
		want = append(want, x.ask())
	}
	before := runtime.NumGoroutine()
	got := make([]string, len(all))
	var group sync.WaitGroup
	for at, x := range all {
		group.Add(1)
		go func() {
			defer group.Done()
			got[at] = x.ask()
		}()
	}
	group.Wait()
	for at, x := range all {
		if got[at] != want[at] {
			t.Fatalf("%+v at once with others: %s, not %s", x, got[at], want[at])
		}
	}
	s := serverOf(2, wholeMove[:6]...)
	for range 50 {
		impl.RunSteps(s, stepsOf(wholeMove...))
		impl.RunSteps(s, make([]impl.Step, 24))
	}
	// What the test itself sent off may need a moment to be gone.
	for range 100 {
		if runtime.NumGoroutine() <= before {
			return
		}
		time.Sleep(10 * time.Millisecond)
	}
	t.Errorf("%d go on, and %d did ahead", runtime.NumGoroutine(), before)
}

// P1: an answer at every argument, however far from what may be.
func TestP1WorldEveryArgument(t *testing.T) {
	few := fewServers()
	s := few[2]
	for _, a := range farNumbers {
		for _, b := range farNumbers {
			list := []impl.Step{crashWith(a), {Keep: a, Op: impl.Op{Kind: b}}, {Op: impl.Op{Kind: a, N: b}}, {Crash: true, Keep: a, Op: impl.Op{Secret: b}}, {Op: impl.Op{Kind: 1, Record: impl.Record{Label: "bob", Version: a, Owner: b, Pin: a}, Secret: b}}}
			for _, x := range list {
				if got, want := impl.StepFault(x), stepCode(x); got != want {
					t.Fatalf("StepFault(%+v) = %d, not %d", x, got, want)
				}
			}
			seeRun(t, s, list)
		}
		seeCopied(t, s, a)
		seeCopied(t, few[4], a)
		far := turnedServer(few[3], func(s *impl.Server) { s.Safe = a })
		seeWorld(t, far, keyLabels[3][0])
		seeReleased(t, far, few[3])
		seeStep(t, far, crashWith(0))
		seeCopied(t, far, a)
	}
	long := strings.Repeat("a", 1000000)
	if impl.AnswersRight(s, long) || impl.StepFault(impl.Step{Op: impl.Op{Kind: 1, Record: impl.Record{Label: long, Version: 1}}}) != impl.ErrMany {
		t.Error("a label of a million bytes")
	}
	if got := seeRun(t, s, []impl.Step{{Op: impl.Op{Kind: 1, Record: impl.Record{Label: long, Version: 1}}}, {Crash: true, Op: impl.Op{Record: impl.Record{Label: long}}}}); !slices.Equal(got.Codes, []int64{impl.ErrMany, impl.ErrForm}) {
		t.Errorf("steps with a label of a million bytes: %+v", got)
	}
	for name, turn := range map[string]func(s *impl.Server){
		"a million in the log":           func(s *impl.Server) { s.Log = make([][]byte, 1000000) },
		"a million bytes":                func(s *impl.Server) { s.Log[1] = make([]byte, 1000000) },
		"a million records in the state": func(s *impl.Server) { s.State.Directory.Records = make([]impl.Record, 1000000) },
		"a million heads in the state":   func(s *impl.Server) { s.State.Heads = make([]impl.Head, 1000000) },
		"a million in Past":              func(s *impl.Server) { s.State.Past = make([]impl.Directory, 1000000) },
		"nothing in Past":                func(s *impl.Server) { s.State.Past = nil },
		"a label of a million bytes":     func(s *impl.Server) { s.State.Directory.Records[0].Label = long },
		"no state":                       func(s *impl.Server) { s.State = impl.State{} },
		"no log":                         func(s *impl.Server) { s.Log = nil },
	} {
		bad := turnedServer(s, turn)
		seeWorld(t, bad, "bob", keyLabels[3][0], long, "")
		if seeReleased(t, bad, s) || seeReleased(t, s, bad) || impl.RootsRight(bad) {
			t.Errorf("%s: it is right", name)
		}
		code := serverCode(bad)
		if !noServer(seeStep(t, bad, crashWith(1)), code) || !noRun(seeRun(t, bad, make([]impl.Step, 1000000)), code) || !noCopied(seeCopied(t, bad, 1), code) {
			t.Errorf("%s: a code that is not %d", name, code)
		}
	}
}
