package tests

import (
	"bytes"
	"fmt"
	"math"
	"slices"
	"strings"
	"testing"
	"unsafe"

	"loop.example/g00602/impl"
)

// opCode, opPacked, opReadBy, doOpBy, replayBy, serverCode, doServerBy and crashBy say over
// again, in the document's words, what chapter 12 asks.
func opCode(o impl.Op) int64 {
	if o.Kind <= 0 || o.Kind >= 7 {
		return impl.ErrForm
	}
	update, copies := o.Kind == 1, o.Kind == 3
	if !update && (o.Record != impl.Record{} || o.Secret != 0) || !copies && o.N != 0 {
		return impl.ErrForm
	}
	if update && (o.Secret <= -1 || o.Secret >= 1000) || copies && (o.N <= 0 || o.N >= 257) {
		return impl.ErrRange
	}
	if update {
		return recordCode(o.Record)
	}
	return impl.OK
}

func opPacked(o impl.Op) []byte {
	switch o.Kind {
	case 1:
		return slices.Concat(tagged(1, []int64{o.Secret}), packedBy(o.Record))
	case 3:
		return tagged(3, []int64{o.N})
	}
	return []byte{byte(o.Kind)}
}

var noOp = impl.OpResult{Code: impl.ErrText}

func opReadBy(data []byte) impl.OpResult {
	if len(data) == 1 && slices.Contains([]byte{2, 4, 5, 6}, data[0]) {
		return impl.OpResult{Op: impl.Op{Kind: int64(data[0])}}
	}
	if len(data) < 3 {
		return noOp
	}
	n := int64(data[1])*256 + int64(data[2])
	if data[0] == 3 && len(data) == 3 && n > 0 && n < 257 {
		return impl.OpResult{Op: impl.Op{Kind: 3, N: n}}
	}
	if r := unpackedBy(data[3:]); data[0] == 1 && n < 1000 && r.Code == impl.OK {
		return impl.OpResult{Op: impl.Op{Kind: 1, Record: r.Record, Secret: n}}
	}
	return noOp
}

var doingNames = []string{1: "update", 2: "start", 3: "copy", 4: "back", 5: "over", 6: "close"}

func doingOf(o impl.Op) doing {
	return doing{what: doingNames[o.Kind], r: o.Record, secret: o.Secret, n: o.N}
}

func opOf(x doing) impl.Op {
	return impl.Op{Kind: int64(slices.Index(doingNames, x.what)), Record: x.r, Secret: x.secret, N: x.n}
}

func doOpBy(s impl.State, o impl.Op) impl.StateResult {
	if code := stateCode(s); code != impl.OK {
		return impl.StateResult{Code: code}
	}
	if code := opCode(o); code != impl.OK {
		return impl.StateResult{Code: code}
	}
	return doingOf(o).wanted(s)
}

// replayed: what replayBy told, by the log, as most logs are beginnings of others.
var replayed = map[string]impl.StateResult{}

func replayBy(log [][]byte) impl.StateResult {
	if len(log) > 40 {
		return impl.StateResult{Code: impl.ErrMany}
	}
	if len(log) == 0 {
		return impl.StateResult{State: impl.State{Phase: impl.PhaseIdle}}
	}
	name := fmt.Sprintf("%q", log)
	told, known := replayed[name]
	if !known {
		told = replayOn(replayBy(log[:len(log)-1]), log[len(log)-1])
		replayed[name] = told
	}
	return impl.StateResult{Code: told.Code, State: stateCopy(told.State)}
}

func replayOn(ahead impl.StateResult, data []byte) impl.StateResult {
	if ahead.Code != impl.OK {
		return ahead
	}
	read := opReadBy(data)
	if read.Code != impl.OK {
		return impl.StateResult{Code: read.Code}
	}
	return doOpBy(ahead.State, read.Op)
}

func serverCode(s impl.Server) int64 {
	if s.Safe < 0 || s.Safe > int64(len(s.Log)) {
		return impl.ErrRange
	}
	told := replayBy(s.Log)
	if told.Code != impl.OK {
		return told.Code
	}
	if !sameState(told.State, s.State) {
		return impl.ErrState
	}
	for at, data := range s.Log {
		if int64(at) >= s.Safe && data[0] == 6 {
			return impl.ErrState
		}
	}
	return impl.OK
}

func doServerBy(s impl.Server, o impl.Op) impl.ServerResult {
	if code := serverCode(s); code != impl.OK {
		return impl.ServerResult{Code: code}
	}
	if code := opCode(o); code != impl.OK {
		return impl.ServerResult{Code: code}
	}
	if len(s.Log) == 40 {
		return impl.ServerResult{Code: impl.ErrFull}
	}
	did := doingOf(o).wanted(s.State)
	if did.Code != impl.OK {
		return impl.ServerResult{Code: did.Code}
	}
	out := impl.Server{State: did.State, Log: append(logCopy(s.Log), opPacked(o)), Safe: s.Safe}
	if o.Kind == 6 {
		out.Safe = int64(len(out.Log))
	}
	return impl.ServerResult{Server: out}
}

func crashBy(s impl.Server, keep int64) impl.ServerResult {
	if code := serverCode(s); code != impl.OK {
		return impl.ServerResult{Code: code}
	}
	if keep < 0 {
		return impl.ServerResult{Code: impl.ErrRange}
	}
	var left [][]byte
	for at, data := range s.Log {
		if int64(at)-s.Safe < keep {
			left = append(left, slices.Clone(data))
		}
	}
	return impl.ServerResult{Server: impl.Server{State: replayBy(left).State, Log: left, Safe: int64(len(left))}}
}

func logCopy(log [][]byte) [][]byte {
	var out [][]byte
	for _, data := range log {
		out = append(out, slices.Clone(data))
	}
	return out
}

func serverCopy(s impl.Server) impl.Server {
	return impl.Server{State: stateCopy(s.State), Log: logCopy(s.Log), Safe: s.Safe}
}

func turnedServer(s impl.Server, turn func(s *impl.Server)) impl.Server {
	s = serverCopy(s)
	turn(&s)
	return s
}

func sameServer(a impl.Server, b impl.Server) bool {
	return sameState(a.State, b.State) && slices.EqualFunc(a.Log, b.Log, bytes.Equal) && a.Safe == b.Safe
}

func noServer(got impl.ServerResult, code int64) bool {
	return got.Code == code && sameServer(got.Server, impl.Server{})
}

var (
	opStart = impl.Op{Kind: impl.OpStart}
	opBack  = impl.Op{Kind: impl.OpBack}
	opOver  = impl.Op{Kind: impl.OpOver}
	opClose = impl.Op{Kind: impl.OpClose}
)

func opCopy(n int64) impl.Op {
	return impl.Op{Kind: impl.OpCopy, N: n}
}

// opPut: an update of a key, of which all versions have one owner.
func opPut(key int64, version int64) impl.Op {
	return impl.Op{Kind: impl.OpUpdate, Record: by(key, version, secretOf(key)), Secret: secretOf(key)}
}

func logOf(ops ...impl.Op) [][]byte {
	var out [][]byte
	for _, o := range ops {
		out = append(out, opPacked(o))
	}
	return out
}

// serverOf: a server that did these, with that many Safe.
func serverOf(safe int64, ops ...impl.Op) impl.Server {
	log := logOf(ops...)
	return impl.Server{State: replayBy(log).State, Log: log, Safe: safe}
}

// safeBy: how many are Safe by closes alone.
func safeBy(ops []impl.Op) int64 {
	safe := 0
	for at, o := range ops {
		if o.Kind == impl.OpClose {
			safe = at + 1
		}
	}
	return int64(safe)
}

// wholeMove: all kinds of operations, up to an end behind the cut; of 23, five closes among them.
var wholeMove = []impl.Op{
	opPut(3, 1), opClose, opPut(252, 1), opStart, opCopy(4), opPut(3, 2), opClose, opBack, opPut(77, 1), opStart,
	opCopy(100), opPut(99, 1), opPut(100, 1), opCopy(156), opClose, opPut(252, 2), opOver, opPut(0, 1), opClose,
	opPut(255, 1), opClose, opPut(255, 2), opPut(3, 3),
}

// fullJournal: MaxLog operations, with MaxSlots records and MaxEpochs heads.
func fullJournal() []impl.Op {
	var out []impl.Op
	for n := range int64(12) {
		out = append(out, opPut(n*23, 1))
	}
	for n := range int64(9) {
		out = append(out, opPut(n*23, 2), opClose)
	}
	return append(out, opStart, opCopy(30), opCopy(225), opCopy(1), opClose, opOver, opPut(0, 3), opPut(23, 3), opPut(46, 3), opPut(69, 3))
}

// someJournals: of none to MaxLog operations, that end in each phase, ahead of the cut and behind it.
func someJournals() [][]impl.Op {
	full := fullJournal()
	return [][]impl.Op{
		nil,
		{opPut(3, 1)},
		{opClose},
		{opStart},
		{opStart, opCopy(256)},
		{opStart, opCopy(256), opOver},
		{opStart, opBack},
		{opPut(3, 1), opClose, opStart, opCopy(256)},
		{opPut(3, 1), opClose, opStart, opCopy(256), opClose, opOver, opPut(9, 1)},
		{opPut(3, 1), opClose, opStart, opCopy(256), opOver, opClose, opPut(9, 1), opPut(9, 2)},
		{opPut(3, 1), opStart, opCopy(1), opCopy(255), opBack, opStart, opCopy(128), opPut(200, 1), opClose, opCopy(127), opPut(100, 1)},
		wholeMove,
		full[:39],
		full,
		slices.Repeat([]impl.Op{opStart, opBack}, 20),
		slices.Repeat([]impl.Op{opClose}, 10),
	}
}

// goodServers: without a fault, with as many Safe as there have to be, some more, and all.
func goodServers() []impl.Server {
	var out []impl.Server
	for _, ops := range someJournals() {
		all := int64(len(ops))
		safe := safeBy(ops)
		for _, n := range slices.Compact([]int64{safe, min(safe+1, all), all}) {
			out = append(out, serverOf(n, ops...))
		}
	}
	return out
}

// fewServers: with some that are not Safe, in each phase, ahead of the cut and behind it.
func fewServers() []impl.Server {
	return []impl.Server{
		{State: impl.State{Phase: 1}},
		serverOf(0, opPut(3, 1), opPut(77, 1)),
		serverOf(2, wholeMove[:6]...),
		serverOf(7, wholeMove[:8]...),
		serverOf(7, wholeMove[:14]...),
		serverOf(15, wholeMove[:18]...),
		serverOf(19, wholeMove[:20]...),
		serverOf(21, wholeMove...),
		serverOf(35, fullJournal()...),
	}
}

var farNumbers = []int64{math.MinInt64, math.MinInt64 + 1, -4294967295, -65536, -65535, -256, -255, -7, -1, 0, 1, 2, 3, 6, 7, 8, 255, 256, 257, 258, 259, 512, 999, 1000, 1001, 65535, 65536, 65537, 4294967296, 4294967297, math.MaxInt64 - 1, math.MaxInt64}

// someOps: of each kind and of none, with and without what it has, at the edges of its numbers.
func someOps() []impl.Op {
	var out []impl.Op
	for _, kind := range farNumbers {
		out = append(out, impl.Op{Kind: kind})
	}
	for kind := int64(-1); kind <= 8; kind++ {
		for _, n := range farNumbers {
			out = append(out, impl.Op{Kind: kind, N: n}, impl.Op{Kind: kind, Secret: n}, impl.Op{Kind: kind, Record: by(3, 1, 7), Secret: n}, impl.Op{Kind: kind, Record: impl.Record{Pin: n}}, impl.Op{Kind: kind, Record: by(3, 1, 7), Secret: 7, N: n}, impl.Op{Kind: kind, Record: impl.Record{Label: "bob", Version: n}, Secret: 7})
		}
		for _, r := range someRecords {
			out = append(out, impl.Op{Kind: kind, Record: r, Secret: 999})
		}
	}
	for _, label := range slices.Concat(goodLabels, notFolded, noLabels) {
		out = append(out, impl.Op{Kind: impl.OpUpdate, Record: impl.Record{Label: label, Version: 1, Owner: 5, Pin: 6}, Secret: 7})
	}
	return out
}

// seeOp: its fault and its bytes, and that it is read back from them.
func seeOp(t *testing.T, o impl.Op) int64 {
	t.Helper()
	code := opCode(o)
	if got := impl.OpFault(o); got != code {
		t.Fatalf("OpFault(%+v) = %d, not %d", o, got, code)
	}
	packed := impl.PackOp(o)
	if code != impl.OK {
		if !noBytes(packed, code) {
			t.Fatalf("PackOp(%+v) = %+v, not code %d", o, packed, code)
		}
		return code
	}
	if !sameBytes(packed, opPacked(o)) {
		t.Fatalf("PackOp(%+v) = %+v, not %v", o, packed, opPacked(o))
	}
	if got := impl.ReadOp(packed.Bytes); got != (impl.OpResult{Op: o}) {
		t.Fatalf("ReadOp(%v) = %+v, not %+v", packed.Bytes, got, o)
	}
	return code
}

// seeOpBytes: what is read of them is what they are packed from, or nothing.
func seeOpBytes(t *testing.T, data []byte) impl.OpResult {
	t.Helper()
	got := impl.ReadOp(data)
	if want := opReadBy(data); got != want {
		t.Fatalf("ReadOp(%v) = %+v, not %+v", data, got, want)
	}
	if got.Code == impl.OK && !sameBytes(impl.PackOp(got.Op), data) {
		t.Fatalf("ReadOp(%v) = %+v, which has other bytes", data, got)
	}
	return got
}

func seeDoOp(t *testing.T, s impl.State, o impl.Op) impl.StateResult {
	t.Helper()
	got, want := impl.DoOp(s, o), doOpBy(s, o)
	if got.Code != want.Code || !sameState(got.State, want.State) {
		t.Fatalf("DoOp(%+v, %+v) = %+v, not %+v", s, o, got, want)
	}
	return got
}

func seeReplay(t *testing.T, log [][]byte) impl.StateResult {
	t.Helper()
	got, want := impl.ReplayLog(log), replayBy(log)
	if got.Code != want.Code || !sameState(got.State, want.State) {
		t.Fatalf("ReplayLog(%v) = %+v, not %+v", log, got, want)
	}
	return got
}

// seeServerFault: a server with a fault has its code told by all functions that ask it, and nothing else.
func seeServerFault(t *testing.T, name string, s impl.Server, code int64) {
	t.Helper()
	if serverCode(s) != code {
		t.Fatalf("%s: the words said over again tell %d, not %d", name, serverCode(s), code)
	}
	if got := impl.ServerFault(s); got != code {
		t.Fatalf("%s: ServerFault(%+v) = %d, not %d", name, s, got, code)
	}
	for _, o := range []impl.Op{opStart, opClose, opPut(55, 1), {}, {Kind: impl.OpCopy, N: -1}} {
		if got := seeDid(t, s, o); code != impl.OK && !noServer(got, code) {
			t.Fatalf("%s: DoServer(%+v) = %+v, not code %d", name, o, got, code)
		}
	}
	for _, keep := range []int64{-1, 0, 1, math.MaxInt64} {
		if got := seeCrash(t, s, keep); code != impl.OK && !noServer(got, code) {
			t.Fatalf("%s: CrashServer(%d) = %+v, not code %d", name, keep, got, code)
		}
	}
}

// seeDid: what is answered is what the words ask; and P13, where it is done.
func seeDid(t *testing.T, s impl.Server, o impl.Op) impl.ServerResult {
	t.Helper()
	got, want := impl.DoServer(s, o), doServerBy(s, o)
	if got.Code != want.Code || !sameServer(got.Server, want.Server) {
		t.Fatalf("DoServer(%+v, %+v) = %+v, not %+v", s, o, got, want)
	}
	if got.Code == impl.OK {
		seeLogged(t, s, o, got.Server)
	}
	return got
}

// seeLogged: P13, by what the program itself tells.
func seeLogged(t *testing.T, was impl.Server, o impl.Op, now impl.Server) {
	t.Helper()
	seeTold(t, now)
	n := len(was.Log)
	if len(now.Log) != n+1 || !slices.EqualFunc(now.Log[:n], was.Log, bytes.Equal) || impl.ReadOp(now.Log[n]) != (impl.OpResult{Op: o}) {
		t.Fatalf("%+v of %v is in the log %v", o, was.Log, now.Log)
	}
	did := impl.DoOp(was.State, o)
	if did.Code != impl.OK || !impl.SameStates(did.State, now.State) || impl.SameServers(was, now) {
		t.Fatalf("%+v of %+v = %+v, but DoOp = %+v", o, was, now, did)
	}
	if o.Kind == impl.OpClose && now.Safe != int64(n+1) || o.Kind != impl.OpClose && now.Safe != was.Safe {
		t.Fatalf("%+v: %d of %d are safe, and %d were", o, now.Safe, len(now.Log), was.Safe)
	}
}

// seeTold: there is no fault, and the log tells just the state that there is.
func seeTold(t *testing.T, s impl.Server) {
	t.Helper()
	if code := impl.ServerFault(s); code != impl.OK {
		t.Fatalf("ServerFault(%+v) = %d", s, code)
	}
	if told := impl.ReplayLog(s.Log); told.Code != impl.OK || !impl.SameStates(told.State, s.State) {
		t.Fatalf("the log of %+v tells %+v", s, told)
	}
	if impl.StateFault(s.State) != impl.OK || !impl.SameServers(s, serverCopy(s)) {
		t.Fatalf("%+v has a state of the fault %d", s, impl.StateFault(s.State))
	}
}

func seeCrash(t *testing.T, s impl.Server, keep int64) impl.ServerResult {
	t.Helper()
	got, want := impl.CrashServer(s, keep), crashBy(s, keep)
	if got.Code != want.Code || !sameServer(got.Server, want.Server) {
		t.Fatalf("CrashServer(%+v, %d) = %+v, not %+v", s, keep, got, want)
	}
	if got.Code == impl.OK {
		seeSurvived(t, s, keep, got.Server)
	}
	return got
}

// seeSurvived: P13, by what the program itself tells.
func seeSurvived(t *testing.T, was impl.Server, keep int64, now impl.Server) {
	t.Helper()
	seeTold(t, now)
	n := len(now.Log)
	if n > len(was.Log) || int64(n) < was.Safe || !slices.EqualFunc(now.Log, was.Log[:n], bytes.Equal) || now.Safe != int64(n) {
		t.Fatalf("a crash of %+v with %d left: %+v", was, keep, now)
	}
	if lost := int64(len(was.Log) - n); lost > 0 && int64(n)-was.Safe != keep {
		t.Fatalf("a crash of %+v with %d left lost %d", was, keep, lost)
	}
	if !slices.Equal(now.State.Heads, was.State.Heads) || !slices.EqualFunc(now.State.Past, was.State.Past, impl.SameDirectories) {
		t.Fatalf("a crash turned what was published: %+v, then %+v", was.State, now.State)
	}
	last := int64(impl.PhaseIdle)
	if len(was.State.Heads) > 0 {
		last = was.State.Heads[len(was.State.Heads)-1].Phase
	}
	if !impl.MayFollow(last, now.State.Phase) || last == impl.PhaseCutOver && now.State.Phase != impl.PhaseCutOver {
		t.Fatalf("a crash leads from the phase %d that was published to %d", last, now.State.Phase)
	}
}

func TestJournalConstants(t *testing.T) {
	kinds := []int64{impl.OpUpdate, impl.OpStart, impl.OpCopy, impl.OpBack, impl.OpOver, impl.OpClose}
	if !slices.Equal(kinds, []int64{1, 2, 3, 4, 5, 6}) || impl.MaxLog != 40 {
		t.Error("the constants of chapter 12")
	}
}

func TestOpFault(t *testing.T) {
	codes := map[int64]int{}
	for _, o := range someOps() {
		codes[seeOp(t, o)]++
	}
	for _, code := range []int64{impl.OK, impl.ErrForm, impl.ErrMany, impl.ErrRange, impl.ErrText} {
		if codes[code] < 5 {
			t.Errorf("code %d seen %d times alone: %v", code, codes[code], codes)
		}
	}
}

// Each code alone, and several at once: the one that is asked first tells.
func TestOpFaultCodes(t *testing.T) {
	bob := by(3, 1, 7)
	cases := map[string]struct {
		o    impl.Op
		code int64
	}{
		"nothing":                             {impl.Op{}, impl.ErrForm},
		"the kind 7":                          {impl.Op{Kind: 7}, impl.ErrForm},
		"the kind -1":                         {impl.Op{Kind: -1}, impl.ErrForm},
		"the kind 0, with all of an update":   {impl.Op{Record: bob, Secret: 7}, impl.ErrForm},
		"the kind 7, with an N that is not":   {impl.Op{Kind: 7, N: 257}, impl.ErrForm},
		"an update":                           {impl.Op{Kind: 1, Record: bob, Secret: 7}, impl.OK},
		"of the secret 0":                     {impl.Op{Kind: 1, Record: bob}, impl.OK},
		"of the secret 999":                   {impl.Op{Kind: 1, Record: bob, Secret: 999}, impl.OK},
		"of the secret 1000":                  {impl.Op{Kind: 1, Record: bob, Secret: 1000}, impl.ErrRange},
		"of the secret -1":                    {impl.Op{Kind: 1, Record: bob, Secret: -1}, impl.ErrRange},
		"an update with N":                    {impl.Op{Kind: 1, Record: bob, Secret: 7, N: 1}, impl.ErrForm},
		"with N, of the secret -1":            {impl.Op{Kind: 1, Record: bob, Secret: -1, N: 1}, impl.ErrForm},
		"with N, of no record":                {impl.Op{Kind: 1, Record: impl.Record{Label: "a b"}, N: -1}, impl.ErrForm},
		"of the secret 1000 and no record":    {impl.Op{Kind: 1, Record: impl.Record{Label: "a b"}, Secret: 1000}, impl.ErrRange},
		"of the secret -1 and nothing":        {impl.Op{Kind: 1, Secret: -1}, impl.ErrRange},
		"an update of nothing":                {impl.Op{Kind: 1, Secret: 7}, impl.ErrForm},
		"of a label with a blank":             {impl.Op{Kind: 1, Record: impl.Record{Label: "a b"}, Secret: 7}, impl.ErrText},
		"of a label of 13 bytes":              {impl.Op{Kind: 1, Record: impl.Record{Label: "abcdefghijklm"}, Secret: 7}, impl.ErrMany},
		"of a label that is not folded":       {impl.Op{Kind: 1, Record: impl.Record{Label: "Bob", Version: 1}, Secret: 7}, impl.ErrForm},
		"of the version 0":                    {impl.Op{Kind: 1, Record: impl.Record{Label: "bob"}, Secret: 7}, impl.ErrRange},
		"of an owner that the secret has not": {impl.Op{Kind: 1, Record: bob, Secret: 8}, impl.OK},
		"a copy":                              {impl.Op{Kind: 3, N: 100}, impl.OK},
		"of 1":                                {impl.Op{Kind: 3, N: 1}, impl.OK},
		"of 255":                              {impl.Op{Kind: 3, N: 255}, impl.OK},
		"of 256":                              {impl.Op{Kind: 3, N: 256}, impl.OK},
		"of 257":                              {impl.Op{Kind: 3, N: 257}, impl.ErrRange},
		"of 0":                                {impl.Op{Kind: 3}, impl.ErrRange},
		"of -1":                               {impl.Op{Kind: 3, N: -1}, impl.ErrRange},
		"a copy with a secret":                {impl.Op{Kind: 3, Secret: 1, N: 100}, impl.ErrForm},
		"of 0, with a secret":                 {impl.Op{Kind: 3, Secret: 1}, impl.ErrForm},
		"of 0, with a record":                 {impl.Op{Kind: 3, Record: bob}, impl.ErrForm},
		"of 257, with a pin":                  {impl.Op{Kind: 3, Record: impl.Record{Pin: 1}, N: 257}, impl.ErrForm},
		"a copy with a record that is none":   {impl.Op{Kind: 3, Record: impl.Record{Label: "a b"}, N: 100}, impl.ErrForm},
	}
	for name, x := range cases {
		if got := seeOp(t, x.o); got != x.code {
			t.Errorf("%s: OpFault(%+v) = %d, not %d", name, x.o, got, x.code)
		}
	}
}

// What a kind has not: each field alone.
func TestOpFaultWhatAKindHasNot(t *testing.T) {
	good := []impl.Op{opPut(3, 1), opStart, opCopy(5), opBack, opOver, opClose}
	for at, o := range good {
		kind := int64(at + 1)
		if o.Kind != kind || seeOp(t, o) != impl.OK {
			t.Fatalf("OpFault(%+v)", o)
		}
		update, copies := kind == impl.OpUpdate, kind == impl.OpCopy
		turns := map[string]struct {
			has  bool
			turn func(o *impl.Op)
		}{
			"a label":   {update, func(o *impl.Op) { o.Record.Label = "x" }},
			"a version": {update, func(o *impl.Op) { o.Record.Version = 2 }},
			"an owner":  {update, func(o *impl.Op) { o.Record.Owner = 2 }},
			"a pin":     {update, func(o *impl.Op) { o.Record.Pin = 2 }},
			"a secret":  {update, func(o *impl.Op) { o.Secret = 2 }},
			"an N":      {copies, func(o *impl.Op) { o.N = 2 }},
		}
		for name, x := range turns {
			with := o
			x.turn(&with)
			if got := seeOp(t, with); got != formUnless(x.has) {
				t.Errorf("kind %d with %s: %d", kind, name, got)
			}
		}
	}
}

func TestPackOpExamples(t *testing.T) {
	bob := impl.Record{Label: "bob", Version: 258, Owner: 60227, Pin: 5}
	for want, o := range map[string]impl.Op{
		"\x01\x00\x07\x01\x03bob\x01\x02\xeb\x43\x00\x05": {Kind: impl.OpUpdate, Record: bob, Secret: 7},
		"\x01\x03\xe7\x01\x03bob\x01\x02\xeb\x43\x00\x05": {Kind: impl.OpUpdate, Record: bob, Secret: 999},
		"\x02":         {Kind: impl.OpStart},
		"\x03\x00\x01": {Kind: impl.OpCopy, N: 1},
		"\x03\x00\xff": {Kind: impl.OpCopy, N: 255},
		"\x03\x01\x00": {Kind: impl.OpCopy, N: 256},
		"\x04":         {Kind: impl.OpBack},
		"\x05":         {Kind: impl.OpOver},
		"\x06":         {Kind: impl.OpClose},
	} {
		if got := impl.PackOp(o); !sameBytes(got, []byte(want)) {
			t.Errorf("PackOp(%+v) = %+v, not %q", o, got, want)
		}
		if got := impl.ReadOp([]byte(want)); got != (impl.OpResult{Op: o}) {
			t.Errorf("ReadOp(%q) = %+v, not %+v", want, got, o)
		}
	}
}

// P13: each N, each secret, each version: read back from its bytes.
func TestP13OpsReadBack(t *testing.T) {
	for n := int64(-3); n <= 1010; n++ {
		seeOp(t, opCopy(n))
		seeOp(t, impl.Op{Kind: impl.OpUpdate, Record: by(77, 1, 5), Secret: n})
		seeOp(t, impl.Op{Kind: impl.OpUpdate, Record: by(77, n, 5), Secret: 1000 - n})
	}
	for _, pin := range slices.Concat(sumEdges, noSums) {
		seeOp(t, impl.Op{Kind: impl.OpUpdate, Record: impl.Record{Label: "bob", Version: 1, Owner: 5, Pin: pin}})
		seeOp(t, impl.Op{Kind: impl.OpUpdate, Record: impl.Record{Label: "bob", Version: 999, Owner: pin, Pin: 7}, Secret: 1})
	}
}

// P13: no two operations have the same bytes.
func TestP13OpsApart(t *testing.T) {
	packed := map[string]impl.Op{}
	for _, o := range someOps() {
		if impl.OpFault(o) != impl.OK {
			continue
		}
		data := string(impl.PackOp(o).Bytes)
		if other, taken := packed[data]; taken && other != o {
			t.Fatalf("%+v and %+v have the bytes %q", o, other, data)
		}
		packed[data] = o
	}
	if len(packed) < 50 {
		t.Errorf("%d operations alone", len(packed))
	}
}

// All bytes up to two, and all of three that begin with a kind or next to one.
func TestReadOpShort(t *testing.T) {
	read := 0
	see := func(data ...byte) {
		if seeOpBytes(t, data).Code == impl.OK {
			read++
		}
	}
	see()
	if got := impl.ReadOp(nil); got != noOp {
		t.Errorf("ReadOp(nil) = %+v", got)
	}
	for a := range 256 {
		see(byte(a))
		for b := range 256 {
			see(byte(a), byte(b))
			if a > 8 && a < 255 {
				continue
			}
			for c := range 256 {
				see(byte(a), byte(b), byte(c))
			}
		}
	}
	if read != 4+256 {
		t.Errorf("%d are operations", read)
	}
}

// Operations cut short at each byte, with bytes behind the end, and with each byte turned to each other one.
func TestReadOpTurned(t *testing.T) {
	ops := []impl.Op{opStart, opBack, opOver, opClose, opCopy(1), opCopy(255), opCopy(256), opPut(3, 1), opPut(255, 999),
		{Kind: impl.OpUpdate, Record: impl.Record{Label: "a", Version: 1}}, {Kind: impl.OpUpdate, Record: impl.Record{Label: "abcdefghijkl", Version: 999, Owner: 65520, Pin: 65520}, Secret: 999},
		{Kind: impl.OpUpdate, Record: impl.Record{Label: "\xc3\xa9", Version: 256, Owner: 256, Pin: 1}, Secret: 256}}
	good, none := 0, 0
	for _, o := range ops {
		data := opPacked(o)
		if got := seeOpBytes(t, data); got != (impl.OpResult{Op: o}) {
			t.Fatalf("ReadOp(%v) = %+v", data, got)
		}
		for end := range data {
			if got := seeOpBytes(t, data[:end]); got != noOp {
				t.Fatalf("cut short: ReadOp(%v) = %+v", data[:end], got)
			}
		}
		for _, behind := range [][]byte{{0}, {1}, {6}, {255}, {0, 0}, {0, 1}, make([]byte, 20), data} {
			if got := seeOpBytes(t, slices.Concat(data, behind)); got != noOp {
				t.Fatalf("with %v behind: ReadOp(%v) = %+v", behind, slices.Concat(data, behind), got)
			}
		}
		for at := range data {
			for b := range 256 {
				turned := slices.Clone(data)
				turned[at] = byte(b)
				if seeOpBytes(t, turned).Code == impl.OK {
					good++
				} else {
					none++
				}
			}
			seeOpBytes(t, slices.Delete(slices.Clone(data), at, at+1))
			seeOpBytes(t, slices.Insert(slices.Clone(data), at, data[at]))
		}
	}
	if good < 500 || none < 500 {
		t.Errorf("%d that are operations and %d that are none alone", good, none)
	}
}

// Bytes of an operation that has a fault: the form is right, what it says is not.
func TestReadOpOfFaults(t *testing.T) {
	none := 0
	for _, o := range someOps() {
		if opCode(o) == impl.OK || o.Kind < 0 || o.Kind > 255 {
			continue
		}
		data := opPacked(o)
		if opReadBy(data).Code == impl.OK {
			continue // what its kind has not is not in the bytes
		}
		if got := seeOpBytes(t, data); got != noOp {
			t.Fatalf("ReadOp(%v) of %+v = %+v", data, o, got)
		}
		none++
	}
	if none < 50 {
		t.Errorf("%d of a fault alone", none)
	}
	for name, data := range map[string]string{
		"the secret 1000":              "\x01\x03\xe8\x01\x03bob\x00\x01\x00\x00\x00\x00",
		"the secret 65535":             "\x01\xff\xff\x01\x03bob\x00\x01\x00\x00\x00\x00",
		"the N 0":                      "\x03\x00\x00",
		"the N 257":                    "\x03\x01\x01",
		"the N 512":                    "\x03\x02\x00",
		"a record of another mark":     "\x01\x00\x07\x02\x03bob\x00\x01\x00\x00\x00\x00",
		"a record that is not folded":  "\x01\x00\x07\x01\x03Bob\x00\x01\x00\x00\x00\x00",
		"a record of the version 0":    "\x01\x00\x07\x01\x03bob\x00\x00\x00\x00\x00\x00",
		"a record of the version 1000": "\x01\x00\x07\x01\x03bob\x03\xe8\x00\x00\x00\x00",
		"a pin that is no sum":         "\x01\x00\x07\x01\x03bob\x00\x01\x00\x00\xff\xf1",
		"a label with a blank":         "\x01\x00\x07\x01\x03b b\x00\x01\x00\x00\x00\x00",
		"no record":                    "\x01\x00\x07",
		"a copy with a record":         "\x03\x00\x07\x01\x03bob\x00\x01\x00\x00\x00\x00",
		"a start with an N":            "\x02\x00\x07",
		"a close and a close":          "\x06\x06",
		"a record alone":               "\x01\x03bob\x00\x01\x00\x00\x00\x00",
		"the kind 0":                   "\x00",
		"the kind 7":                   "\x07",
	} {
		if got := seeOpBytes(t, []byte(data)); got != noOp {
			t.Errorf("%s: ReadOp = %+v", name, got)
		}
	}
}

// opsFor: of each kind what may be done with a state, and much that may not.
func opsFor(s impl.State) []impl.Op {
	out := []impl.Op{{}, {Kind: 7}, {Kind: impl.OpUpdate, Record: impl.Record{Label: "a b"}}, {Kind: impl.OpStart, N: 1}, {Kind: impl.OpClose, Secret: 1}, {Kind: impl.OpUpdate, Record: by(9, 1, 9), Secret: 9, N: 1}}
	for _, x := range doingsFor(s) {
		out = append(out, opOf(x))
	}
	return out
}

// Each kind done in each phase: as the function of chapter 11 does it.
func TestDoOpInEachPhase(t *testing.T) {
	done := map[[2]int64]int{}
	codes := map[int64]int{}
	for _, s := range append(fewStates(), turnable()...) {
		for _, o := range opsFor(s) {
			got := seeDoOp(t, s, o)
			codes[got.Code]++
			if opCode(o) != impl.OK {
				continue
			}
			if want := doingOf(o).ask(s); got.Code != want.Code || !sameState(got.State, want.State) {
				t.Fatalf("DoOp(%+v, %+v) = %+v, not %+v", s, o, got, want)
			}
			if got.Code == impl.OK {
				done[[2]int64{o.Kind, s.Phase}]++
			}
		}
	}
	may := map[int64][]int64{impl.OpUpdate: allPhases, impl.OpStart: {1, 5}, impl.OpCopy: {2}, impl.OpBack: {2, 3}, impl.OpOver: {3}, impl.OpClose: allPhases}
	for kind, phases := range may {
		for _, phase := range allPhases {
			if (done[[2]int64{kind, phase}] > 0) != slices.Contains(phases, phase) {
				t.Errorf("the kind %d was done %d times in the phase %d", kind, done[[2]int64{kind, phase}], phase)
			}
		}
	}
	for _, code := range []int64{impl.OK, impl.ErrForm, impl.ErrRange, impl.ErrText, impl.ErrTaken, impl.ErrVersion, impl.ErrOwner, impl.ErrState, impl.ErrFull} {
		if codes[code] == 0 {
			t.Errorf("code %d was not seen: %v", code, codes)
		}
	}
}

// The fault of the state, then that of the operation, then whether it may be done.
func TestDoOpOrderOfCodes(t *testing.T) {
	idle := stateOf(impl.PhaseIdle, 0, directoryAt(3, 77), 1)
	full := stateOf(impl.PhaseIdle, 0, directoryAt(3), slices.Repeat([]int64{1}, 10)...)
	cases := map[string]struct {
		s    impl.State
		o    impl.Op
		code int64
	}{
		"no state, no operation":                 {impl.State{}, impl.Op{}, impl.ErrRange},
		"no state":                               {impl.State{}, opStart, impl.ErrRange},
		"a state of another cursor":              {turnedState(idle, func(s *impl.State) { s.Cursor = 1 }), impl.Op{Kind: 3}, impl.ErrForm},
		"another head, a secret that is not so":  {turnedState(idle, func(s *impl.State) { s.Heads[0].Prev = 1 }), impl.Op{Kind: 1, Secret: -1}, impl.ErrProof},
		"no operation":                           {idle, impl.Op{}, impl.ErrForm},
		"a copy of 257 that may not be":          {idle, impl.Op{Kind: 3, N: 257}, impl.ErrRange},
		"a copy of 0 that may not be":            {idle, impl.Op{Kind: 3}, impl.ErrRange},
		"a copy that may not be":                 {idle, opCopy(256), impl.ErrState},
		"a secret ahead of the record":           {idle, impl.Op{Kind: 1, Record: impl.Record{Label: "a b"}, Secret: 1000}, impl.ErrRange},
		"a cut that may not be, with something":  {idle, impl.Op{Kind: 5, N: 1}, impl.ErrForm},
		"a cut that may not be":                  {idle, opOver, impl.ErrState},
		"a turn that may not be":                 {idle, opBack, impl.ErrState},
		"an epoch too many, with something":      {full, impl.Op{Kind: 6, Secret: 1}, impl.ErrForm},
		"an epoch too many":                      {full, opClose, impl.ErrFull},
		"an update of a version that is not so":  {idle, opPut(3, 9), impl.ErrVersion},
		"an update of another owner":             {idle, impl.Op{Kind: 1, Record: by(3, 2, 5), Secret: 5}, impl.ErrOwner},
		"an update of a key that is taken":       {idle, impl.Op{Kind: 1, Record: impl.Record{Label: keyLabels[3][1], Version: 1, Owner: ownerBy(5)}, Secret: 5}, impl.ErrTaken},
		"a start behind the cut":                 {stateOf(impl.PhaseCutOver, 256, directoryAt(3)), opStart, impl.ErrState},
		"a turn behind the cut":                  {stateOf(impl.PhaseCutOver, 256, directoryAt(3)), opBack, impl.ErrState},
		"an update that has another kind's part": {idle, impl.Op{Kind: 1, Record: by(9, 1, 5), Secret: 5, N: 256}, impl.ErrForm},
		"a start":                                {idle, opStart, impl.OK},
	}
	for name, x := range cases {
		got := seeDoOp(t, x.s, x.o)
		if got.Code != x.code || x.code != impl.OK && !noState(got, x.code) {
			t.Errorf("%s: DoOp = %+v, not code %d", name, got, x.code)
		}
	}
	for _, s := range turnable() {
		for _, x := range stateTurns() {
			bad := turnedState(s, x.turn)
			for _, o := range []impl.Op{{}, opStart, opCopy(1), opCopy(0), opBack, opOver, opClose, opPut(9, 1)} {
				if got := impl.DoOp(bad, o); !noState(got, x.code) {
					t.Fatalf("%s: DoOp(%+v) = %+v, not code %d", x.name, o, got, x.code)
				}
			}
		}
	}
}

// P13: each beginning of a log by itself tells what there was by then.
func TestP13ReplayEachBeginning(t *testing.T) {
	for _, ops := range someJournals() {
		log := logOf(ops...)
		s := impl.NewState().State
		for n := range len(log) + 1 {
			got := seeReplay(t, log[:n])
			if got.Code != impl.OK || !impl.SameStates(got.State, s) {
				t.Fatalf("ReplayLog(%v) = %+v, not %+v", log[:n], got, s)
			}
			if n < len(log) {
				s = seeDoOp(t, s, ops[n]).State
			}
		}
	}
	if got := impl.ReplayLog(nil); got.Code != impl.OK || !impl.SameStates(got.State, impl.NewState().State) {
		t.Errorf("ReplayLog(nil) = %+v", got)
	}
}

// logFault: what cannot be read, or not be done, behind each of the beginnings of wholeMove.
type logFault struct {
	name string
	data []byte
	code int64
}

func logFaults() []logFault {
	put := func(o impl.Op) []byte { return opPacked(o) }
	return []logFault{
		{"no byte", nil, impl.ErrText},
		{"the kind 0", []byte{0}, impl.ErrText},
		{"the kind 9", []byte{9}, impl.ErrText},
		{"a copy cut short", []byte{3, 0}, impl.ErrText},
		{"a copy of 257", []byte{3, 1, 1}, impl.ErrText},
		{"a close with a byte behind", []byte{6, 0}, impl.ErrText},
		{"an update of no record", []byte{1, 0, 7, 1}, impl.ErrText},
		{"a version that is not so", put(opPut(3, 900)), impl.ErrVersion},
		{"another owner", put(impl.Op{Kind: 1, Record: by(3, 2, 5), Secret: 5}), impl.ErrOwner},
		{"a key that is taken", put(impl.Op{Kind: 1, Record: impl.Record{Label: keyLabels[3][1], Version: 1, Owner: ownerBy(5)}, Secret: 5}), impl.ErrTaken},
	}
}

func TestReplayLogFaults(t *testing.T) {
	log := logOf(wholeMove...)
	for at := 1; at <= len(log); at++ {
		for _, x := range logFaults() {
			bad := slices.Insert(slices.Clone(log), at, x.data)
			if got := seeReplay(t, bad); !noState(got, x.code) {
				t.Fatalf("%s at %d: ReplayLog = %+v, not code %d", x.name, at, got, x.code)
			}
			// One by one: what stands behind it is not asked.
			for _, y := range logFaults() {
				both := append(slices.Clone(bad[:at+1]), y.data)
				if got := seeReplay(t, both); !noState(got, x.code) {
					t.Fatalf("%s at %d, then %s: ReplayLog = %+v, not code %d", x.name, at, y.name, got, x.code)
				}
			}
		}
	}
	cases := map[string]struct {
		log  [][]byte
		code int64
	}{
		"a copy first":              {logOf(opCopy(1)), impl.ErrState},
		"a turn first":              {logOf(opBack), impl.ErrState},
		"a cut first":               {logOf(opOver), impl.ErrState},
		"two starts":                {logOf(opStart, opStart), impl.ErrState},
		"a cut of what is copied":   {logOf(opStart, opCopy(255), opOver), impl.ErrState},
		"a copy too many":           {logOf(opStart, opCopy(255), opCopy(1), opCopy(1)), impl.ErrState},
		"a turn behind the cut":     {logOf(opStart, opCopy(256), opOver, opBack), impl.ErrState},
		"a start behind the cut":    {logOf(opStart, opCopy(256), opOver, opClose, opStart), impl.ErrState},
		"eleven epochs":             {logOf(slices.Repeat([]impl.Op{opClose}, 11)...), impl.ErrFull},
		"thirteen records":          {append(logOf(fullJournal()[:12]...), opPacked(opPut(255, 1))), impl.ErrFull},
		"a second version first":    {logOf(opPut(3, 2)), impl.ErrVersion},
		"a version told twice":      {logOf(opPut(3, 1), opPut(3, 1)), impl.ErrVersion},
		"an owner of another first": {logOf(impl.Op{Kind: 1, Record: by(3, 1, 5), Secret: 6}), impl.ErrOwner},
		"nothing":                   {[][]byte{nil}, impl.ErrText},
		"nothing, behind a start":   {[][]byte{{2}, {}}, impl.ErrText},
	}
	for name, x := range cases {
		if got := seeReplay(t, x.log); !noState(got, x.code) {
			t.Errorf("%s: ReplayLog = %+v, not code %d", name, got, x.code)
		}
	}
}

// MaxLog - 1, MaxLog and more; too many are not read.
func TestReplayLogMany(t *testing.T) {
	full := logOf(fullJournal()...)
	if len(full) != 40 {
		t.Fatalf("%d are no full log", len(full))
	}
	for _, n := range []int{38, 39, 40} {
		if got := seeReplay(t, full[:n]); got.Code != impl.OK {
			t.Errorf("ReplayLog of %d = %+v", n, got)
		}
	}
	more := append(slices.Clone(full), opPacked(opPut(92, 3)))
	if got := seeReplay(t, more); !noState(got, impl.ErrMany) {
		t.Errorf("ReplayLog of 41 = %+v", got)
	}
	more[0] = []byte{9}
	if got := seeReplay(t, more); !noState(got, impl.ErrMany) {
		t.Errorf("ReplayLog of 41, the first one none = %+v", got)
	}
	if got := seeReplay(t, more[:40]); !noState(got, impl.ErrText) {
		t.Errorf("ReplayLog of 40, the first one none = %+v", got)
	}
	for _, n := range []int{41, 42, 80, 256, 1000000} {
		if got := impl.ReplayLog(make([][]byte, n)); !noState(got, impl.ErrMany) {
			t.Errorf("ReplayLog of %d that are nothing = %+v", n, got)
		}
	}
}

func TestNewServer(t *testing.T) {
	got := impl.NewServer()
	if got.Code != impl.OK || !sameServer(got.Server, impl.Server{State: impl.State{Phase: 1}}) {
		t.Fatalf("NewServer = %+v", got)
	}
	seeTold(t, got.Server)
	// What becomes of one is nothing to the next one.
	got.Server.Log = append(got.Server.Log, []byte{2})
	got.Server.State.Heads = append(got.Server.State.Heads, impl.Head{Epoch: 5})
	if again := impl.NewServer(); !sameServer(again.Server, impl.Server{State: impl.State{Phase: 1}}) {
		t.Errorf("NewServer = %+v, the second time", again)
	}
}

// P13: servers that do all kinds: what is done is in the log, and Safe are all behind a close, and as many as there were behind all else.
func TestP13Servers(t *testing.T) {
	for _, ops := range someJournals() {
		s := impl.NewServer().Server
		for at, o := range ops {
			got := seeDid(t, s, o)
			if got.Code != impl.OK || got.Server.Safe != safeBy(ops[:at+1]) {
				t.Fatalf("DoServer(%+v, %+v) = %+v", s, o, got)
			}
			s = got.Server
		}
		if !sameServer(s, serverOf(safeBy(ops), ops...)) {
			t.Fatalf("%v were done as %+v", ops, s)
		}
	}
}

// By hand: what is Safe, what is in the log, what a crash leaves.
func TestServerExamples(t *testing.T) {
	s := impl.NewServer().Server
	for _, x := range []struct {
		o     impl.Op
		log   string
		safe  int64
		phase int64
	}{
		{opPut(3, 1), string(opPacked(opPut(3, 1))), 0, 1},
		{opClose, "\x06", 2, 1},
		{opStart, "\x02", 2, 2},
		{opCopy(255), "\x03\x00\xff", 2, 2},
		{opBack, "\x04", 2, 5},
		{opStart, "\x02", 2, 2},
		{opCopy(256), "\x03\x01\x00", 2, 3},
		{opClose, "\x06", 8, 3},
		{opOver, "\x05", 8, 4},
		{opPut(9, 1), string(opPacked(opPut(9, 1))), 8, 4},
		{opClose, "\x06", 11, 4},
		{opPut(9, 2), string(opPacked(opPut(9, 2))), 11, 4},
	} {
		s = seeDid(t, s, x.o).Server
		if last := s.Log[len(s.Log)-1]; string(last) != x.log || s.Safe != x.safe || s.State.Phase != x.phase {
			t.Fatalf("behind %+v: %+v", x.o, s)
		}
	}
	cut := serverOf(8, opPut(3, 1), opClose, opStart, opCopy(255), opBack, opStart, opCopy(256), opClose, opOver, opPut(9, 1))
	for keep, phase := range map[int64]int64{0: 3, 1: 4, 2: 4, 3: 4, 1000: 4} {
		got := seeCrash(t, cut, keep)
		if got.Server.State.Phase != phase || len(got.Server.State.Heads) != 2 || got.Server.Safe != min(8+keep, 10) {
			t.Errorf("a crash with %d left: %+v", keep, got)
		}
	}
	if got := seeCrash(t, s, 0).Server; got.State.Phase != 4 || got.State.Cursor != 256 || len(got.State.Heads) != 3 || len(got.Log) != 11 {
		t.Errorf("a crash behind the cut: %+v", got)
	}
}

// All kinds, with what may be done and what may not, by servers of all kinds.
func TestDoServerAll(t *testing.T) {
	codes := map[int64]int{}
	for _, s := range goodServers() {
		for _, o := range opsFor(s.State) {
			codes[seeDid(t, s, o).Code]++
		}
	}
	for _, code := range []int64{impl.OK, impl.ErrForm, impl.ErrRange, impl.ErrText, impl.ErrTaken, impl.ErrVersion, impl.ErrOwner, impl.ErrState, impl.ErrFull} {
		if codes[code] == 0 {
			t.Errorf("code %d was not seen: %v", code, codes)
		}
	}
}

// A log with room for one more, and with none: OpFault, then ErrFull, then whether it may be done.
func TestDoServerFull(t *testing.T) {
	ops := fullJournal()
	almost, full := serverOf(35, ops[:39]...), serverOf(35, ops...)
	cases := map[string]struct {
		o          impl.Op
		room, none int64
	}{
		"an update":                       {opPut(69, 3), impl.OK, impl.ErrFull},
		"an update of what has no room":   {opPut(255, 1), impl.ErrFull, impl.ErrFull},
		"a version that is not so":        {opPut(69, 9), impl.ErrVersion, impl.ErrFull},
		"a start that may not be":         {opStart, impl.ErrState, impl.ErrFull},
		"a copy that may not be":          {opCopy(1), impl.ErrState, impl.ErrFull},
		"a turn that may not be":          {opBack, impl.ErrState, impl.ErrFull},
		"a cut that may not be":           {opOver, impl.ErrState, impl.ErrFull},
		"an epoch too many":               {opClose, impl.ErrFull, impl.ErrFull},
		"nothing":                         {impl.Op{}, impl.ErrForm, impl.ErrForm},
		"a copy of 0":                     {opCopy(0), impl.ErrRange, impl.ErrRange},
		"a copy of 257":                   {opCopy(257), impl.ErrRange, impl.ErrRange},
		"a close with something":          {impl.Op{Kind: 6, N: 1}, impl.ErrForm, impl.ErrForm},
		"a label with a blank":            {impl.Op{Kind: 1, Record: impl.Record{Label: "a b"}}, impl.ErrText, impl.ErrText},
		"a long label":                    {impl.Op{Kind: 1, Record: impl.Record{Label: "abcdefghijklm"}}, impl.ErrMany, impl.ErrMany},
		"the secret 1000, of no record":   {impl.Op{Kind: 1, Secret: 1000}, impl.ErrRange, impl.ErrRange},
		"a secret, and it is no update":   {impl.Op{Kind: 2, Secret: 1000}, impl.ErrForm, impl.ErrForm},
		"an update by someone else":       {impl.Op{Kind: 1, Record: by(69, 3, 5), Secret: 5}, impl.ErrOwner, impl.ErrFull},
		"an update of a key of a label":   {impl.Op{Kind: 1, Record: impl.Record{Label: keyLabels[69][1], Version: 1, Owner: ownerBy(5)}, Secret: 5}, impl.ErrTaken, impl.ErrFull},
		"an update that has N, else fine": {impl.Op{Kind: 1, Record: by(69, 3, secretOf(69)), Secret: secretOf(69), N: 1}, impl.ErrForm, impl.ErrForm},
	}
	for name, x := range cases {
		if got := seeDid(t, almost, x.o); got.Code != x.room || x.room != impl.OK && !noServer(got, x.room) {
			t.Errorf("%s, with room for one: DoServer = %+v, not code %d", name, got, x.room)
		}
		if got := seeDid(t, full, x.o); !noServer(got, x.none) {
			t.Errorf("%s, with no room: DoServer = %+v, not code %d", name, got, x.none)
		}
	}
	// A close that is the last one there is room for: all are Safe then.
	toggled := append(slices.Repeat([]impl.Op{opStart, opBack}, 19), opStart)
	got := seeDid(t, serverOf(0, toggled...), opClose)
	if got.Code != impl.OK || got.Server.Safe != 40 || len(got.Server.Log) != 40 {
		t.Errorf("a close as the last one: %+v", got)
	}
	if again := seeDid(t, got.Server, opClose); !noServer(again, impl.ErrFull) {
		t.Errorf("a close behind the last one: %+v", again)
	}
	// A crash makes room again.
	left := seeCrash(t, full, 0).Server
	if next := seeDid(t, left, opOver); next.Code != impl.OK || len(left.Log) != 35 {
		t.Errorf("behind a crash: %+v", next)
	}
}

// P13: crashes with none left, some, as many as there are and more.
func TestP13Crashes(t *testing.T) {
	keeps := []int64{math.MinInt64, -4294967295, -1, 0, 1, 2, 5, 40, 4294967296}
	lost, ahead, behind := 0, 0, 0
	for _, s := range goodServers() {
		loose := int64(len(s.Log)) - s.Safe
		for _, keep := range append(keeps, loose-1, loose, loose+1, math.MaxInt64-s.Safe+1, math.MaxInt64) {
			got := seeCrash(t, s, keep)
			if keep < 0 {
				if !noServer(got, impl.ErrRange) {
					t.Fatalf("CrashServer(%d) = %+v", keep, got)
				}
				continue
			}
			if keep >= loose && (!impl.SameStates(got.Server.State, s.State) || len(got.Server.Log) != len(s.Log)) {
				t.Fatalf("a crash with all of %+v left: %+v", s, got)
			}
			if keep < loose {
				lost++
			}
			if s.State.Phase == impl.PhaseCutOver && got.Server.State.Phase == impl.PhaseCutOver {
				behind++
			} else {
				ahead++
			}
			// What survived one crash survives the next one.
			if next := impl.CrashServer(got.Server, 0); next.Code != impl.OK || !sameServer(next.Server, got.Server) {
				t.Fatalf("a second crash of %+v: %+v", got.Server, next)
			}
		}
	}
	if lost < 30 || ahead < 100 || behind < 100 {
		t.Errorf("%d crashes that lost something, %d ahead of the cut, %d behind it alone", lost, ahead, behind)
	}
}

// P13: at each beginning of a move, each crash: all that was published is there.
func TestP13CrashAnywhere(t *testing.T) {
	for n := range len(wholeMove) + 1 {
		ops := wholeMove[:n]
		safe := safeBy(ops)
		s := serverOf(safe, ops...)
		for keep := range int64(n) - safe + 2 {
			got := seeCrash(t, s, keep)
			left := min(safe+keep, int64(n))
			if !sameServer(got.Server, serverOf(left, ops[:left]...)) {
				t.Fatalf("%d of the move, a crash with %d left: %+v", n, keep, got)
			}
			// What was lost can be done once more, with the same end.
			for _, o := range ops[left:] {
				got = seeDid(t, got.Server, o)
			}
			if !impl.SameStates(got.Server.State, s.State) {
				t.Fatalf("%d of the move, a crash with %d left, and on: %+v", n, keep, got)
			}
		}
	}
}

// P13 along histories of operations and crashes, each one held against the same history by the document's words.
func TestP13Histories(t *testing.T) {
	seen := map[string]int{}
	for walk := range uint32(40) {
		dice := walk*2654435761 + 54321
		roll := func(n int64) int64 {
			dice = dice*1664525 + 1013904223
			return int64(dice>>8) % n
		}
		s := impl.NewServer().Server
		var published []impl.Head
		for range 55 {
			var got impl.ServerResult
			what := "crash"
			if roll(9) == 0 {
				got = seeCrash(t, s, roll(6)-1)
			} else {
				o := opOf(rolled(s.State, roll))
				what = doingNames[o.Kind]
				got = seeDid(t, s, o)
			}
			seen[fmt.Sprint(what, " ", got.Code == impl.OK)]++
			seen[fmt.Sprint("phase ", s.State.Phase)]++
			if got.Code != impl.OK {
				continue
			}
			s = got.Server
			if len(s.State.Heads) < len(published) || !slices.Equal(s.State.Heads[:len(published)], published) {
				t.Fatalf("%v were published, and %v are there", published, s.State.Heads)
			}
			published = s.State.Heads
			if n := len(published); n > 0 && published[n-1].Phase == impl.PhaseCutOver {
				seen["behind the cut"]++
				if s.State.Phase != impl.PhaseCutOver {
					t.Fatalf("the phase leads back from the cut: %+v", s)
				}
			}
		}
	}
	for _, what := range []string{"update true", "start true", "copy true", "back true", "over true", "close true", "crash true", "update false", "start false", "copy false", "back false", "over false", "crash false", "phase 1", "phase 2", "phase 3", "phase 4", "phase 5", "behind the cut"} {
		if seen[what] < 5 {
			t.Errorf("%s: seen %d times alone: %v", what, seen[what], seen)
		}
	}
}

// Safe at each number: it has to reach behind the last close, and may go on to the end.
func TestServerFaultSafe(t *testing.T) {
	for _, ops := range someJournals() {
		for safe := int64(-2); safe <= int64(len(ops))+2; safe++ {
			s := serverOf(safe, ops...)
			code := int64(impl.OK)
			if safe < 0 || safe > int64(len(ops)) {
				code = impl.ErrRange
			} else if safe < safeBy(ops) {
				code = impl.ErrState
			}
			if got := impl.ServerFault(s); got != code || serverCode(s) != code {
				t.Fatalf("%d safe of %d: ServerFault = %d, not %d", safe, len(ops), got, code)
			}
		}
		for _, safe := range []int64{math.MinInt64, -4294967296, -256, 41, 256, 4294967296, math.MaxInt64} {
			seeServerFault(t, fmt.Sprint(safe, " safe"), serverOf(safe, ops...), impl.ErrRange)
		}
	}
	one := serverOf(1, opClose, opPut(3, 1))
	seeServerFault(t, "a close that is safe", one, impl.OK)
	seeServerFault(t, "a close that is not", turnedServer(one, func(s *impl.Server) { s.Safe = 0 }), impl.ErrState)
	seeServerFault(t, "a close at the end that is not", serverOf(0, opPut(3, 1), opClose), impl.ErrState)
	// A byte 6 that is none of a close.
	seeServerFault(t, "a copy of 6", serverOf(0, opStart, opCopy(6), opPut(6, 1)), impl.OK)
}

// serverTurn: one thing of a server that is not so, and its place in the order of codes.
type serverTurn struct {
	name string
	rank int
	code int64
	turn func(s *impl.Server)
}

// serverTurns: for servers of wholeMove, with at least the first close.
func serverTurns() []serverTurn {
	out := []serverTurn{
		{"-1 safe", 0, impl.ErrRange, func(s *impl.Server) { s.Safe = -1 }},
		{"more safe than there are", 0, impl.ErrRange, func(s *impl.Server) { s.Safe = 1000001 }},
		{"41 in the log", 1, impl.ErrMany, func(s *impl.Server) {
			s.Log = append(s.Log, slices.Repeat([][]byte{{2}}, 41-len(s.Log))...)
		}},
		{"a state that is nothing", 4, impl.ErrState, func(s *impl.Server) { s.State = impl.State{} }},
		{"a state of another phase", 4, impl.ErrState, func(s *impl.Server) { s.State.Phase = s.State.Phase%5 + 1 }},
		{"a state with a head less", 4, impl.ErrState, func(s *impl.Server) { s.State.Heads = s.State.Heads[1:] }},
		{"the state that was at first", 4, impl.ErrState, func(s *impl.Server) { s.State = impl.State{Phase: 1} }},
		{"a close that is not safe", 5, impl.ErrState, func(s *impl.Server) { s.Safe = 1 }},
		{"nothing is safe", 5, impl.ErrState, func(s *impl.Server) { s.Safe = 0 }},
	}
	for _, x := range logFaults() {
		out = append(out, serverTurn{x.name + " at 1", 2, x.code, func(s *impl.Server) { s.Log[1] = x.data }})
		out = append(out, serverTurn{x.name + " at the end", 3, x.code, func(s *impl.Server) { s.Log[len(s.Log)-1] = x.data }})
	}
	return out
}

func TestServerFaultCodes(t *testing.T) {
	servers := []impl.Server{serverOf(2, wholeMove[:5]...), serverOf(15, wholeMove[:17]...), serverOf(23, wholeMove...)}
	pairs := 0
	for _, s := range servers {
		seeServerFault(t, "nothing turned", s, impl.OK)
		for _, a := range serverTurns() {
			seeServerFault(t, a.name, turnedServer(s, a.turn), a.code)
			for _, b := range serverTurns() {
				if a.rank >= b.rank {
					continue
				}
				bad := turnedServer(turnedServer(s, b.turn), a.turn)
				if got := impl.ServerFault(bad); got != a.code || serverCode(bad) != a.code {
					t.Fatalf("%s, %s: ServerFault(%+v) = %d, not %d (the words said over again tell %d)", a.name, b.name, bad, got, a.code, serverCode(bad))
				}
				pairs++
			}
		}
	}
	if pairs < 500 {
		t.Errorf("%d pairs alone", pairs)
	}
	many := turnedServer(servers[0], func(s *impl.Server) { s.Log, s.Safe = make([][]byte, 41), 42 })
	seeServerFault(t, "42 safe of 41", many, impl.ErrRange)
	many.Safe = 41
	seeServerFault(t, "41 safe of 41 that are none", many, impl.ErrMany)
	many.Log, many.Safe = many.Log[:40], 40
	seeServerFault(t, "40 safe of 40 that are none", many, impl.ErrText)
}

// A log whose state is not the server's: each thing of the state alone.
func TestServerFaultState(t *testing.T) {
	turned := 0
	for _, s := range fewServers() {
		for at, state := range oneThing(s.State) {
			// Of the longest log there are very many.
			if len(s.Log) == 40 && at%9 != 0 {
				continue
			}
			bad := impl.Server{State: state, Log: s.Log, Safe: s.Safe}
			if got := impl.ServerFault(bad); got != impl.ErrState {
				t.Fatalf("ServerFault(%+v) = %d", bad, got)
			}
			turned++
		}
		// States without a fault that the log does not tell, by a log that tells another one.
		for _, other := range fewServers() {
			mixed := impl.Server{State: other.State, Log: s.Log, Safe: s.Safe}
			code := int64(impl.ErrState)
			if sameState(other.State, s.State) {
				code = impl.OK
			}
			if got := impl.ServerFault(mixed); got != code || serverCode(mixed) != code {
				t.Fatalf("the state of another log: ServerFault(%+v) = %d, not %d", mixed, got, code)
			}
		}
		if n := len(s.Log); n > 0 {
			late := impl.Server{State: replayBy(s.Log[:n-1]).State, Log: s.Log, Safe: s.Safe}
			seeServerFault(t, "the state ahead of the last one", late, impl.ErrState)
			less := impl.Server{State: s.State, Log: s.Log[:n-1], Safe: min(s.Safe, int64(n-1))}
			seeServerFault(t, "the last one is not in the log", less, impl.ErrState)
		}
	}
	if turned < 300 {
		t.Errorf("%d states that part alone", turned)
	}
}

// partedServers: others that part from a server in one thing alone.
func partedServers(s impl.Server) []impl.Server {
	turns := []func(s *impl.Server){
		func(s *impl.Server) { s.Safe++ },
		func(s *impl.Server) { s.Safe -= 4294967296 },
		func(s *impl.Server) { s.Log = append(s.Log, nil) },
		func(s *impl.Server) { s.Log = append(s.Log, []byte{0}) },
		func(s *impl.Server) { s.Log = append([][]byte{{}}, s.Log...) },
	}
	for at, data := range s.Log {
		turns = append(turns, func(s *impl.Server) { s.Log = slices.Delete(s.Log, at, at+1) }, func(s *impl.Server) { s.Log = s.Log[:at] }, func(s *impl.Server) { s.Log[at] = append(s.Log[at], 0) })
		for place := range data {
			turns = append(turns, func(s *impl.Server) { s.Log[at][place]++ }, func(s *impl.Server) { s.Log[at] = s.Log[at][:place] })
		}
	}
	var out []impl.Server
	for _, turn := range turns {
		out = append(out, turnedServer(s, turn))
	}
	for _, state := range oneThing(s.State) {
		out = append(out, impl.Server{State: state, Log: logCopy(s.Log), Safe: s.Safe})
	}
	return out
}

// Those with a fault may be the same too.
func TestSameServers(t *testing.T) {
	all := append(fewServers(), impl.Server{}, impl.Server{Safe: 1}, impl.Server{Log: [][]byte{nil}}, impl.Server{Log: [][]byte{{9, 9}, nil}, Safe: -5}, impl.Server{Log: [][]byte{{9}, {9}}, Safe: -5})
	parted := 0
	for at, a := range all {
		if !impl.SameServers(a, a) || !impl.SameServers(a, serverCopy(a)) || !impl.SameServers(serverCopy(a), a) {
			t.Errorf("%+v is not the same as itself", a)
		}
		for other, b := range all {
			if got := impl.SameServers(a, b); got != (at == other) {
				t.Errorf("SameServers(%+v, %+v) = %v", a, b, got)
			}
		}
		for _, b := range partedServers(a) {
			if impl.SameServers(a, b) || impl.SameServers(b, a) || !impl.SameServers(b, serverCopy(b)) {
				t.Fatalf("SameServers(%+v, %+v)", a, b)
			}
			parted++
		}
	}
	if parted < 500 {
		t.Errorf("%d that part alone", parted)
	}
	if !impl.SameServers(impl.Server{Log: [][]byte{}}, impl.Server{}) || !impl.SameServers(impl.Server{Log: [][]byte{{}}}, impl.Server{Log: [][]byte{nil}}) {
		t.Error("nil and an empty list are not the same")
	}
}

// journalAsked: one call of each function of the chapter.
type journalAsked struct {
	s     impl.Server
	other impl.Server
	o     impl.Op
	keep  int64
}

func (x journalAsked) states() []impl.StateResult {
	return []impl.StateResult{impl.DoOp(x.s.State, x.o), impl.ReplayLog(x.s.Log)}
}

func (x journalAsked) servers() []impl.ServerResult {
	return []impl.ServerResult{impl.NewServer(), impl.DoServer(x.s, x.o), impl.CrashServer(x.s, x.keep)}
}

func (x journalAsked) ops() ([]impl.BytesResult, []impl.OpResult) {
	packed := []impl.BytesResult{impl.PackOp(x.o)}
	read := []impl.OpResult{impl.ReadOp(packed[0].Bytes)}
	for _, data := range x.s.Log[:min(len(x.s.Log), 50)] {
		read = append(read, impl.ReadOp(data))
	}
	return packed, read
}

func (x journalAsked) ask() string {
	packed, read := x.ops()
	return fmt.Sprint(impl.OpFault(x.o), packed, read, x.states(), impl.ServerFault(x.s), x.servers(), impl.SameServers(x.s, x.other))
}

func someJournalsAsked() []journalAsked {
	servers := fewServers()
	for _, x := range serverTurns() {
		servers = append(servers, turnedServer(serverOf(7, wholeMove[:8]...), x.turn))
	}
	servers = append(servers, impl.Server{}, impl.Server{State: impl.State{Phase: 2}, Log: [][]byte{{2}}, Safe: 1})
	var out []journalAsked
	for at, s := range servers {
		other := servers[(at+1)%len(servers)]
		out = append(out, journalAsked{s, s, opClose, 0}, journalAsked{s, serverCopy(s), opPut(55, 1), 1}, journalAsked{s, other, impl.Op{Kind: impl.OpUpdate, Record: impl.Record{Label: "Bob"}}, -1})
		out = append(out, journalAsked{s, other, opStart, 2}, journalAsked{s, other, opCopy(100), 99}, journalAsked{s, other, opBack, 3}, journalAsked{s, other, opOver, math.MaxInt64})
		if len(s.State.Directory.Records) > 0 {
			r := s.State.Directory.Records[0]
			out = append(out, journalAsked{s, other, opPut(keyBy(r.Label), r.Version+1), 0})
		}
	}
	return out
}

// roomyServer: the same server, each list of it with other things ahead of it and behind it; and whether all of that is as it was.
func roomyServer(s impl.Server) (impl.Server, func() bool) {
	var stays []func() bool
	state, stateStays := roomy(s.State)
	log := slices.Clone(s.Log)
	for at := range log {
		log[at] = amid(&stays, log[at], 6, 255)
	}
	around := [][]byte{{6}, {9, 9}}
	room := slices.Concat(around, log, around)
	was, bytesWere := slices.Clone(room), logCopy(room)
	stays = append(stays, stateStays, func() bool {
		for at, data := range room {
			if unsafe.SliceData(data) != unsafe.SliceData(was[at]) || !bytes.Equal(data, bytesWere[at]) {
				return false
			}
		}
		return true
	})
	return impl.Server{State: state, Log: room[2 : 2+len(log)], Safe: s.Safe}, func() bool {
		return !slices.ContainsFunc(stays, func(stays func() bool) bool { return !stays() })
	}
}

// P1: what is handed in is as it was, with the room around it; and that room is not looked at.
func TestP1JournalArgumentsStay(t *testing.T) {
	for _, x := range someJournalsAsked() {
		given := x
		var sStays, otherStays func() bool
		given.s, sStays = roomyServer(x.s)
		given.other, otherStays = roomyServer(x.other)
		if got, want := given.ask(), x.ask(); got != want {
			t.Fatalf("%+v with room around: %s, not %s", x, got, want)
		}
		given.other = given.s
		given.ask()
		if !sStays() || !otherStays() {
			t.Fatalf("%+v turned its arguments: %+v", x, given)
		}
	}
}

func serverMemory(s impl.Server) []unsafe.Pointer {
	out := append(memoryOf(s.State), placesOf(s.Log)...)
	for _, data := range s.Log[:cap(s.Log)] {
		out = append(out, placesOf(data)...)
	}
	return out
}

// P1: no list, no bytes and no label of an answer stand where those of an argument do, nor where others of it do.
func TestP1JournalAnswersAreNew(t *testing.T) {
	done := 0
	for _, x := range someJournalsAsked() {
		taken := map[unsafe.Pointer]bool{}
		for _, place := range append(serverMemory(x.s), labelPlace(x.o.Record)...) {
			taken[place] = true
		}
		see := func(what string, memory []unsafe.Pointer) {
			t.Helper()
			for _, place := range memory {
				if taken[place] {
					t.Fatalf("%s of %+v shares memory", what, x)
				}
				taken[place] = true
			}
		}
		packed, read := x.ops()
		for _, got := range packed {
			see("PackOp", placesOf(got.Bytes))
		}
		for _, got := range read {
			see("ReadOp", labelPlace(got.Op.Record))
		}
		for _, got := range x.states() {
			see("DoOp or ReplayLog", memoryOf(got.State))
		}
		for _, got := range x.servers() {
			see("NewServer, DoServer or CrashServer", serverMemory(got.Server))
			if got.Code == impl.OK {
				done++
			}
		}
	}
	if done < 100 {
		t.Errorf("%d calls without a code alone", done)
	}
}

func spoilServer(s impl.Server) {
	spoilState(s.State)
	log := s.Log[:cap(s.Log)]
	for at, data := range log {
		for place := range data[:cap(data)] {
			data[:cap(data)][place] = 6
		}
		log[at] = []byte{6, 6, 6}
	}
}

// P1: whatever becomes of an answer, or of what was handed in, the other one stays.
func TestP1JournalSpoilt(t *testing.T) {
	for _, x := range someJournalsAsked() {
		given := x
		given.s, given.other = serverCopy(x.s), serverCopy(x.other)
		want := given.ask()
		packed, read := given.ops()
		states, servers := given.states(), given.servers()
		told := func() string { return fmt.Sprint(packed, read, states, servers) }
		was := told()
		for _, got := range given.states() {
			spoilState(got.State)
		}
		for _, got := range given.servers() {
			spoilServer(got.Server)
		}
		if given.ask() != want || told() != was || !sameServer(given.s, x.s) {
			t.Fatalf("%+v: an answer shares with what was handed in, or with another one", x)
		}
		spoilServer(given.s)
		if told() != was {
			t.Fatalf("%+v: an answer turned with what was handed in", x)
		}
	}
	// The bytes are turned behind the reading; the label is not.
	data := opPacked(opPut(77, 1))
	read := impl.ReadOp(data)
	clear(data)
	if read.Op != opPut(77, 1) {
		t.Errorf("what was read turned with its bytes: %+v", read)
	}
}

// P1: nil and an empty list are the same value.
func TestP1NoJournal(t *testing.T) {
	state := impl.State{Phase: 1, Directory: impl.Directory{Records: make([]impl.Record, 0, 3)}, New: make([]impl.Slot, 0, 3), Heads: make([]impl.Head, 0, 3), Past: make([]impl.Directory, 0, 3)}
	bare, empty := impl.Server{State: impl.State{Phase: 1}}, impl.Server{State: state, Log: make([][]byte, 0, 3)}
	for _, o := range []impl.Op{opStart, opClose, opPut(3, 1), opOver, {}} {
		for _, keep := range []int64{-1, 0, 1} {
			a, b := journalAsked{bare, empty, o, keep}, journalAsked{empty, bare, o, keep}
			if a.ask() != b.ask() {
				t.Errorf("empty lists: %s, not %s", b.ask(), a.ask())
			}
		}
	}
	if impl.ReadOp([]byte{}) != noOp || impl.ReadOp(nil) != noOp {
		t.Error("an operation of no byte")
	}
	none, nothing := impl.Server{Log: [][]byte{nil}}, impl.Server{Log: [][]byte{{}}}
	if a, b := (journalAsked{s: none, other: nothing}), (journalAsked{s: nothing, other: none}); a.ask() != b.ask() {
		t.Errorf("empty bytes in a log: %s, not %s", b.ask(), a.ask())
	}
}

func TestP1JournalsHangOnArguments(t *testing.T) {
	seeAgain(t, someJournalsAsked())
}

// P1: an answer at every argument, however far from what may be.
func TestP1JournalEveryArgument(t *testing.T) {
	few := fewServers()
	for _, kind := range farNumbers {
		for _, n := range farNumbers {
			for _, o := range []impl.Op{{Kind: kind, N: n}, {Kind: kind, Secret: n}, {Kind: kind, Record: impl.Record{Label: "bob", Version: n, Owner: n, Pin: n}, Secret: n}, {Kind: kind, Record: impl.Record{Label: "bob"}, Secret: n, N: n}} {
				seeOp(t, o)
				seeDoOp(t, few[2].State, o)
			}
			seeCrash(t, turnedServer(few[3], func(s *impl.Server) { s.Safe = kind }), n)
		}
	}
	long := strings.Repeat("a", 1000000)
	many := map[string]struct {
		s    impl.Server
		code int64
	}{
		"nothing":                        {impl.Server{}, impl.ErrState},
		"a million in the log":           {turnedServer(few[2], func(s *impl.Server) { s.Log = make([][]byte, 1000000) }), impl.ErrMany},
		"a million bytes":                {turnedServer(few[2], func(s *impl.Server) { s.Log[1] = make([]byte, 1000000) }), impl.ErrText},
		"a million bytes of an update":   {turnedServer(few[2], func(s *impl.Server) { s.Log[0] = append(s.Log[0], long...) }), impl.ErrText},
		"a million closes in one":        {turnedServer(few[2], func(s *impl.Server) { s.Log[1] = bytes.Repeat([]byte{6}, 1000000) }), impl.ErrText},
		"a million records in the state": {turnedServer(few[2], func(s *impl.Server) { s.State.Directory.Records = make([]impl.Record, 1000000) }), impl.ErrState},
		"a million heads in the state":   {turnedServer(few[2], func(s *impl.Server) { s.State.Heads = make([]impl.Head, 1000000) }), impl.ErrState},
		"a label of a million bytes":     {turnedServer(few[2], func(s *impl.Server) { s.State.Directory.Records[0].Label = long }), impl.ErrState},
		"as many safe as numbers go":     {turnedServer(few[2], func(s *impl.Server) { s.Safe = math.MaxInt64 }), impl.ErrRange},
		"as few safe as numbers go":      {turnedServer(few[2], func(s *impl.Server) { s.Safe = math.MinInt64 }), impl.ErrRange},
	}
	for name, x := range many {
		seeServerFault(t, name, x.s, x.code)
		if !impl.SameServers(x.s, serverCopy(x.s)) || impl.SameServers(x.s, few[2]) {
			t.Errorf("%s: SameServers", name)
		}
	}
	seeOp(t, impl.Op{Kind: impl.OpUpdate, Record: impl.Record{Label: long, Version: 1}})
	if got := impl.ReadOp([]byte(long)); got != noOp {
		t.Errorf("ReadOp of a million bytes = %+v", got)
	}
}
