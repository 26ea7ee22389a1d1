package tests

import (
	"fmt"
	"regexp"
	"slices"
	"strings"
	"testing"
	"unsafe"

	"loop.example/g00602/impl"
)

// wordsBy, isLineBy, lineBy, scriptBy, headTextBy and answerTextBy say over again, in the document's
// words, what chapter 16 asks.
func wordsBy(line string) []string {
	var out []string
	start := 0
	for at := range len(line) + 1 {
		if at < len(line) && line[at] != 32 {
			continue
		}
		if at > start {
			out = append(out, line[start:at])
		}
		start = at + 1
	}
	return out
}

// lineForms: by its first word what a line has behind it, a label or a number each.
var lineForms = map[string]string{
	"set": "LNN", "start": "", "copy": "N", "back": "", "over": "", "close": "", "crash": "N",
	"old": "NL", "new": "NL", "phase": "", "check": "L",
}

var numberForm = regexp.MustCompile(`^(0|[1-9][0-9]{0,4})$`)

func isLineBy(words []string) bool {
	form, listed := lineForms[words[0]]
	if !listed || len(form) != len(words)-1 {
		return false
	}
	for at, word := range words[1:] {
		if form[at] == 'N' && !numberForm.MatchString(word) {
			return false
		}
	}
	return true
}

func lineBy(s impl.Server, line string) impl.ScriptResult {
	if code := serverCode(s); code != impl.OK {
		return impl.ScriptResult{Code: code}
	}
	words := wordsBy(line)
	switch {
	case strings.ContainsRune(line, 10):
		return impl.ScriptResult{Code: impl.ErrText}
	case len(words) == 0:
		return impl.ScriptResult{Server: serverCopy(s)}
	case !isLineBy(words):
		return impl.ScriptResult{Code: impl.ErrText}
	}
	var label string
	var numbers []int64
	for at, word := range words[1:] {
		if lineForms[words[0]][at] == 'L' {
			label = word
			continue
		}
		n := int64(0)
		for _, digit := range []byte(word) {
			n = n*10 + int64(digit-'0')
		}
		numbers = append(numbers, n)
	}
	return didBy(s, words[0], label, numbers)
}

func didBy(s impl.Server, word string, label string, numbers []int64) impl.ScriptResult {
	switch word {
	case "set":
		return setBy(s, label, numbers[0], numbers[1])
	case "copy":
		return okBy(doServerBy(s, opCopy(numbers[0])))
	case "crash":
		return okBy(crashBy(s, numbers[0]))
	case "old", "new":
		return askedBy(s, numbers[0], label, word == "old")
	case "phase":
		return impl.ScriptResult{Server: serverCopy(s), Said: fmt.Sprintf("%d %d", s.State.Phase, s.State.Cursor)}
	case "check":
		return checkedBy(s, label)
	}
	did := okBy(doServerBy(s, impl.Op{Kind: int64(slices.Index(doingNames, word))}))
	if did.Code == impl.OK && word == "close" {
		did.Said = headTextBy(did.Server.State.Heads[len(s.State.Heads)]).Text
	}
	return did
}

func setBy(s impl.Server, label string, pin int64, secret int64) impl.ScriptResult {
	if code := labelCode(label); code != impl.OK {
		return impl.ScriptResult{Code: code}
	}
	if pin >= 65521 || secret >= 1000 {
		return impl.ScriptResult{Code: impl.ErrRange}
	}
	r := impl.Record{Label: foldedBy(label), Version: 1, Owner: ownerBy(secret), Pin: pin}
	for _, was := range s.State.Directory.Records {
		if was.Label == r.Label {
			r.Version, r.Owner = was.Version+1, was.Owner
		}
	}
	return okBy(doServerBy(s, impl.Op{Kind: impl.OpUpdate, Record: r, Secret: secret}))
}

func okBy(did impl.ServerResult) impl.ScriptResult {
	if did.Code != impl.OK {
		return impl.ScriptResult{Code: did.Code}
	}
	return impl.ScriptResult{Server: did.Server, Said: "ok"}
}

func askedBy(s impl.Server, epoch int64, label string, old bool) impl.ScriptResult {
	seen := known(s.State).askServer(epoch, label, old)
	if seen.Code != impl.OK {
		return impl.ScriptResult{Code: seen.Code}
	}
	said := answerTextBy(seen.Answer).Text
	if seen.Again {
		said += " again"
	}
	return impl.ScriptResult{Server: serverCopy(s), Said: said}
}

func checkedBy(s impl.Server, label string) impl.ScriptResult {
	if code := labelCode(label); code != impl.OK {
		return impl.ScriptResult{Code: code}
	}
	said := "wrong"
	if rootsBy(s) && knownOf(s).answersBy(label) {
		said = "right"
	}
	return impl.ScriptResult{Server: serverCopy(s), Said: said}
}

func headTextBy(h impl.Head) impl.TextResult {
	if code := headCode(h); code != impl.OK {
		return impl.TextResult{Code: code}
	}
	return impl.TextResult{Text: fmt.Sprintf("%d %d %d %d %d", h.Epoch, h.Phase, h.Old, h.New, h.Prev)}
}

func answerTextBy(a impl.Answer) impl.TextResult {
	switch {
	case a.Key <= -1 || a.Key >= 256:
		return impl.TextResult{Code: impl.ErrRange}
	case !a.There && a.Record != impl.Record{}:
		return impl.TextResult{Code: impl.ErrForm}
	case !a.There:
		return impl.TextResult{Text: "none"}
	case recordCode(a.Record) != impl.OK:
		return impl.TextResult{Code: recordCode(a.Record)}
	case keyBy(a.Record.Label) != a.Key:
		return impl.TextResult{Code: impl.ErrForm}
	}
	return impl.TextResult{Text: textBy(a.Record)}
}

// scriptLines: what a line feed ends, and what is behind the last one, if it is not empty.
func scriptLines(text string) []string {
	out := strings.Split(text, "\n")
	if out[len(out)-1] == "" {
		return out[:len(out)-1]
	}
	return out
}

func scriptBy(s impl.Server, text string) impl.ScriptResult {
	if code := serverCode(s); code != impl.OK {
		return impl.ScriptResult{Code: code}
	}
	if len(text) >= 1001 || len(scriptLines(text)) >= 25 {
		return impl.ScriptResult{Code: impl.ErrMany}
	}
	out := impl.ScriptResult{Server: serverCopy(s)}
	for _, line := range scriptLines(text) {
		did := lineBy(out.Server, line)
		switch {
		case did.Code != impl.OK:
			out.Said += fmt.Sprintf("! %d\n", did.Code)
			continue
		case did.Said != "" && !strings.HasSuffix(did.Said, "\n"):
			did.Said += "\n"
		}
		out.Server, out.Said = did.Server, out.Said+did.Said
	}
	return out
}

func sameScript(a impl.ScriptResult, b impl.ScriptResult) bool {
	return a.Code == b.Code && a.Said == b.Said && sameServer(a.Server, b.Server)
}

func noScript(got impl.ScriptResult, code int64) bool {
	return sameScript(got, impl.ScriptResult{Code: code})
}

func noAnswerText(got impl.TextResult, code int64) bool {
	return got == impl.TextResult{Code: code}
}

// textOf: the lines of a script, a line feed behind each.
func textOf(lines ...string) string {
	return strings.Join(append(slices.Clone(lines), ""), "\n")
}

// seeLine: what is answered is what the words ask; and P17, where there is no code.
func seeLine(t *testing.T, s impl.Server, line string) impl.ScriptResult {
	t.Helper()
	got, want := impl.StepScript(s, line), lineBy(s, line)
	if !sameScript(got, want) {
		t.Fatalf("StepScript(%+v, %q) = %+v, not %+v", s, line, got, want)
	}
	if got.Code == impl.OK {
		seeLineSo(t, s, impl.WordsOf(line).Words, got)
	}
	return got
}

// seeLineSo: P17 of one line, by what the program itself tells.
func seeLineSo(t *testing.T, was impl.Server, words []string, did impl.ScriptResult) {
	t.Helper()
	now := did.Server
	seeTold(t, now)
	if len(words) == 0 {
		words = []string{""}
	}
	switch word := words[0]; word {
	case "set":
		seeSet(t, was, words[1], words[2:], did)
	case "start", "copy", "back", "over", "close":
		o := impl.ReadOp(now.Log[len(now.Log)-1]).Op
		seeLogged(t, was, o, now)
		said := "ok"
		if word == "close" {
			said = impl.HeadText(now.State.Heads[len(now.State.Heads)-1]).Text
		}
		if doingNames[o.Kind] != word || did.Said != said || word == "copy" && fmt.Sprint(o.N) != words[1] {
			t.Fatalf("%q of %+v: %+v", words, was, did)
		}
	case "crash":
		var keep int64
		fmt.Sscan(words[1], &keep)
		seeSurvived(t, was, keep, now)
		if did.Said != "ok" {
			t.Fatalf("%q of %+v: %+v", words, was, did)
		}
	default:
		if !impl.SameServers(was, now) {
			t.Fatalf("%q turned %+v to %+v", words, was, now)
		}
		seeToldSo(t, was, words, did.Said)
	}
}

// seeSet: what was put is there, of the next version and of the owner that was, and nothing else turned.
func seeSet(t *testing.T, was impl.Server, label string, numbers []string, did impl.ScriptResult) {
	t.Helper()
	o := impl.ReadOp(did.Server.Log[len(did.Server.Log)-1]).Op
	seeLogged(t, was, o, did.Server)
	d, before := did.Server.State.Directory, impl.LookRecord(was.State.Directory, label)
	is := impl.LookRecord(d, label)
	owner, version := impl.OwnerOf(o.Secret).Value, int64(1)
	if before.Code == impl.OK {
		owner, version = before.Record.Owner, before.Record.Version+1
	}
	told := []string{fmt.Sprint(is.Record.Pin), fmt.Sprint(o.Secret)}
	if is.Code != impl.OK || is.Record != o.Record || is.Record.Version != version || is.Record.Owner != owner || !slices.Equal(told, numbers) || is.Record.Label != impl.FoldLabel(label).Text || did.Said != "ok" {
		t.Fatalf("set %q %q of %+v: %+v", label, numbers, was, did)
	}
	for _, r := range d.Records {
		if r != is.Record && impl.LookRecord(was.State.Directory, r.Label).Record != r {
			t.Fatalf("set %q %q of %+v turned %+v", label, numbers, was, r)
		}
	}
	if more := len(d.Records) - len(was.State.Directory.Records); more != 0 && (more != 1 || version != 1) {
		t.Fatalf("set %q %q of %+v: %+v", label, numbers, was, d)
	}
}

// seeToldSo: what is said, where nothing changes, is so.
func seeToldSo(t *testing.T, s impl.Server, words []string, said string) {
	t.Helper()
	want := ""
	switch words[0] {
	case "old", "new":
		seeAnswerSo(t, s, words, said)
		return
	case "phase":
		want = fmt.Sprint(s.State.Phase) + " " + fmt.Sprint(s.State.Cursor)
	case "check":
		want = "wrong"
		if impl.RootsRight(s) && impl.AnswersRight(s, words[1]) {
			want = "right"
		}
	}
	if said != want {
		t.Fatalf("%q of %+v: %q, not %q", words, s, said, want)
	}
}

func seeAnswerSo(t *testing.T, s impl.Server, words []string, said string) {
	t.Helper()
	var epoch int64
	fmt.Sscan(words[1], &epoch)
	text, again := strings.CutSuffix(said, " again")
	first := impl.ReplyTo(s.State, epoch, words[2], words[0] == "old")
	past := impl.PastAnswer(s.State, epoch, words[2])
	if past.Code != impl.OK || again != (first.Code == impl.ErrState) {
		t.Fatalf("%q of %+v: %q, though %+v", words, s, said, first)
	}
	read := impl.ParseRecord(text)
	if past.Answer.There != (read.Code == impl.OK) || past.Answer.Record != read.Record || !past.Answer.There && text != "none" {
		t.Fatalf("%q of %+v: %q, not %+v", words, s, said, past)
	}
}

// seeScript: what is answered is what the words ask, and what the lines do one by one.
func seeScript(t *testing.T, s impl.Server, text string) impl.ScriptResult {
	t.Helper()
	got, want := impl.RunScript(s, text), scriptBy(s, text)
	if !sameScript(got, want) {
		t.Fatalf("RunScript(%+v, %q) = %+v, not %+v", s, text, got, want)
	}
	if got.Code != impl.OK {
		return got
	}
	is, said := s, ""
	for _, line := range scriptLines(text) {
		did := impl.StepScript(is, line)
		switch {
		case did.Code != impl.OK:
			said += "! " + fmt.Sprint(did.Code) + "\n"
			continue
		case did.Said != "":
			said += did.Said + "\n"
		}
		is = did.Server
	}
	if said != got.Said || !impl.SameServers(is, got.Server) {
		t.Fatalf("RunScript(%+v, %q) = %+v, but one by one %q and %+v", s, text, got, said, is)
	}
	seeStepped(t, s, got.Server)
	return got
}

// seeScriptCut: P17, of a script that is cut behind each of its line feeds.
func seeScriptCut(t *testing.T, s impl.Server, text string) impl.ScriptResult {
	t.Helper()
	whole := seeScript(t, s, text)
	for at := range len(text) {
		if text[at] != '\n' {
			continue
		}
		first := impl.RunScript(s, text[:at+1])
		then := impl.RunScript(first.Server, text[at+1:])
		if first.Code != impl.OK || then.Code != impl.OK || first.Said+then.Said != whole.Said || !impl.SameServers(then.Server, whole.Server) {
			t.Fatalf("%q of %+v: %+v, but cut at %d %+v and %+v", text, s, whole, at+1, first, then)
		}
	}
	return whole
}

// lineFor: an operation, told by a line; who put it has all versions of it.
func lineFor(o impl.Op) string {
	switch o.Kind {
	case impl.OpUpdate:
		return fmt.Sprint("set ", o.Record.Label, " ", o.Record.Pin, " ", o.Secret)
	case impl.OpCopy:
		return fmt.Sprint("copy ", o.N)
	}
	return doingNames[o.Kind]
}

func linesFor(ops []impl.Op) []string {
	var out []string
	for _, o := range ops {
		out = append(out, lineFor(o))
	}
	return out
}

func TestScriptConstants(t *testing.T) {
	if impl.MaxScript != 1000 || impl.MaxLines != 24 {
		t.Error("the constants of chapter 16")
	}
}

func seeWords(t *testing.T, line string) {
	t.Helper()
	if got := impl.WordsOf(line); got.Code != impl.OK || !slices.Equal(got.Words, wordsBy(line)) {
		t.Fatalf("WordsOf(%q) = %+v, not %q", line, got, wordsBy(line))
	}
}

func TestWordsOf(t *testing.T) {
	for line, words := range map[string][]string{
		"":                  nil,
		" ":                 nil,
		"     ":             nil,
		"a":                 {"a"},
		" a":                {"a"},
		"a ":                {"a"},
		" a  b ":            {"a", "b"},
		"a b":               {"a", "b"},
		"a   b":             {"a", "b"},
		"   a b   ":         {"a", "b"},
		"set bob 5 7":       {"set", "bob", "5", "7"},
		"b a b b":           {"b", "a", "b", "b"},
		"a\tb":              {"a\tb"},
		"a\nb c\n":          {"a\nb", "c\n"},
		"\n":                {"\n"},
		" \n ":              {"\n"},
		"a\rb":              {"a\rb"},
		"a\x00b c\x00":      {"a\x00b", "c\x00"},
		"a\x1fb":            {"a\x1fb"},
		"a!b":               {"a!b"},
		"a\xc2\xa0b":        {"a\xc2\xa0b"},
		"\xe3\x80\x80 x":    {"\xe3\x80\x80", "x"},
		"\xff \xfe\xfd":     {"\xff", "\xfe\xfd"},
		"\xc3 \xa9":         {"\xc3", "\xa9"},
		"\xc3\xa9 \xc3\xa9": {"\xc3\xa9", "\xc3\xa9"},
		"\xe2\x80\x83a":     {"\xe2\x80\x83a"},
		"\xa0 \x85":         {"\xa0", "\x85"},
	} {
		got := impl.WordsOf(line)
		if got.Code != impl.OK || !slices.Equal(got.Words, words) {
			t.Errorf("WordsOf(%q) = %+v, not %q", line, got, words)
		}
		seeWords(t, line)
	}
}

// All lines of up to 6 bytes of a few, and each byte at each place of one.
func TestWordsOfAll(t *testing.T) {
	lines := []string{""}
	for range 6 {
		var longer []string
		for _, line := range lines {
			for _, next := range []string{" ", "a", "\n", "\xff"} {
				longer = append(longer, line+next)
			}
		}
		for _, line := range longer {
			seeWords(t, line)
		}
		lines = longer
	}
	for at := range 8 {
		for is := range 256 {
			line := []byte(" ab  c d")
			line[at] = byte(is)
			seeWords(t, string(line))
			seeWords(t, string(slices.Insert([]byte(" ab  c d"), at, byte(is))))
		}
	}
	seeWords(t, strings.Repeat("a ", 5000))
	seeWords(t, strings.Repeat(" ", 5000)+"a")
}

// seeHeadText: what the words ask; and P17, that its five numbers are those of the head.
func seeHeadText(t *testing.T, h impl.Head) impl.TextResult {
	t.Helper()
	got, want := impl.HeadText(h), headTextBy(h)
	if got != want {
		t.Fatalf("HeadText(%+v) = %+v, not %+v", h, got, want)
	}
	if got.Code != impl.OK {
		return got
	}
	var read impl.Head
	n, err := fmt.Sscanf(got.Text, "%d %d %d %d %d", &read.Epoch, &read.Phase, &read.Old, &read.New, &read.Prev)
	if n != 5 || err != nil || read != h || len(impl.WordsOf(got.Text).Words) != 5 {
		t.Fatalf("HeadText(%+v) = %q", h, got.Text)
	}
	return got
}

func TestHeadText(t *testing.T) {
	for text, h := range map[string]impl.Head{
		"1 1 0 0 0":          {Epoch: 1, Phase: 1},
		"10 4 0 65520 65520": {Epoch: 10, Phase: 4, New: 65520, Prev: 65520},
		"9 3 65520 1 10":     {Epoch: 9, Phase: 3, Old: 65520, New: 1, Prev: 10},
		"2 5 100 0 9":        {Epoch: 2, Phase: 5, Old: 100, Prev: 9},
		"3 2 12345 0 99":     {Epoch: 3, Phase: 2, Old: 12345, Prev: 99},
		"4 3 0 0 0":          {Epoch: 4, Phase: 3},
		"5 4 0 0 1000":       {Epoch: 5, Phase: 4, Prev: 1000},
		"6 3 101 20020 5":    {Epoch: 6, Phase: 3, Old: 101, New: 20020, Prev: 5},
		"7 1 60000 0 7":      {Epoch: 7, Phase: 1, Old: 60000, Prev: 7},
	} {
		if got := seeHeadText(t, h); got != (impl.TextResult{Text: text}) {
			t.Errorf("HeadText(%+v) = %+v, not %q", h, got, text)
		}
	}
	for _, phase := range allPhases {
		for epoch := int64(1); epoch < 11; epoch++ {
			for _, sum := range sumEdges {
				seeHeadText(t, impl.Head{Epoch: epoch, Phase: phase, Old: sum, New: sum + 1, Prev: 7})
				seeHeadText(t, impl.Head{Epoch: epoch, Phase: phase, Old: sum, Prev: sum})
				seeHeadText(t, impl.Head{Epoch: epoch, Phase: phase, New: sum, Prev: 65520 - sum})
			}
		}
	}
}

// Each code alone, and several at once: a number that leaves its bounds ahead of a root that may not be.
func TestHeadTextCodes(t *testing.T) {
	for name, x := range map[string]struct {
		h    impl.Head
		code int64
	}{
		"nothing":                         {impl.Head{}, impl.ErrRange},
		"the epoch 0":                     {impl.Head{Phase: 1}, impl.ErrRange},
		"the epoch 11":                    {impl.Head{Epoch: 11, Phase: 1}, impl.ErrRange},
		"the phase 0":                     {impl.Head{Epoch: 1}, impl.ErrRange},
		"the phase 6":                     {impl.Head{Epoch: 1, Phase: 6}, impl.ErrRange},
		"an old root of 65521":            {impl.Head{Epoch: 1, Phase: 1, Old: 65521}, impl.ErrRange},
		"an old root of -1":               {impl.Head{Epoch: 1, Phase: 1, Old: -1}, impl.ErrRange},
		"a new root of 65521":             {impl.Head{Epoch: 1, Phase: 4, New: 65521}, impl.ErrRange},
		"a Prev of 65521":                 {impl.Head{Epoch: 1, Phase: 1, Prev: 65521}, impl.ErrRange},
		"a Prev of -1":                    {impl.Head{Epoch: 1, Phase: 1, Prev: -1}, impl.ErrRange},
		"a new root ahead of the move":    {impl.Head{Epoch: 1, Phase: 1, New: 5}, impl.ErrForm},
		"a new root while it copies":      {impl.Head{Epoch: 1, Phase: 2, New: 5}, impl.ErrForm},
		"a new root turned back":          {impl.Head{Epoch: 1, Phase: 5, New: 5}, impl.ErrForm},
		"an old root behind the cut":      {impl.Head{Epoch: 1, Phase: 4, Old: 5}, impl.ErrForm},
		"a new root, and the epoch 0":     {impl.Head{Phase: 1, New: 5}, impl.ErrRange},
		"a new root, and a Prev of 65521": {impl.Head{Epoch: 1, Phase: 1, New: 5, Prev: 65521}, impl.ErrRange},
	} {
		if got := seeHeadText(t, x.h); got != (impl.TextResult{Code: x.code}) {
			t.Errorf("%s: HeadText = %+v, not code %d", name, got, x.code)
		}
	}
	for _, n := range farNumbers {
		for _, other := range farNumbers {
			for _, h := range []impl.Head{
				{Epoch: n, Phase: other}, {Epoch: 1, Phase: n, Old: other}, {Epoch: 1, Phase: n, New: other},
				{Epoch: 1, Phase: 3, Old: n, New: other}, {Epoch: n, Phase: 1, Prev: other},
			} {
				seeHeadText(t, h)
			}
		}
	}
}

// seeAnswerText: what the words ask; and P17, that the record is read back from it.
func seeAnswerText(t *testing.T, a impl.Answer) impl.TextResult {
	t.Helper()
	got, want := impl.AnswerText(a), answerTextBy(a)
	if got != want {
		t.Fatalf("AnswerText(%+v) = %+v, not %+v", a, got, want)
	}
	if got.Code != impl.OK {
		return got
	}
	if read := impl.ParseRecord(got.Text); a.There != (read.Code == impl.OK) || read.Record != a.Record || !a.There && got.Text != "none" {
		t.Fatalf("AnswerText(%+v) = %q", a, got.Text)
	}
	return got
}

func answerOfRecord(r impl.Record) impl.Answer {
	return impl.Answer{Key: keyBy(r.Label), There: true, Record: r}
}

func TestAnswerText(t *testing.T) {
	for key := range int64(256) {
		if got := seeAnswerText(t, impl.Answer{Key: key}); got != (impl.TextResult{Text: "none"}) {
			t.Errorf("nothing at %d: AnswerText = %+v", key, got)
		}
		for version, label := range keyLabels[key] {
			seeAnswerText(t, answerOfRecord(impl.Record{Label: label, Version: int64(version*333 + 1), Owner: key * 255, Pin: 65520 - key}))
		}
	}
	for _, r := range someRecords {
		if got := seeAnswerText(t, answerOfRecord(r)); got.Code != recordCode(r) {
			t.Errorf("AnswerText of %+v = %+v", r, got)
		}
	}
	for _, label := range goodLabels {
		seeAnswerText(t, answerOfRecord(impl.Record{Label: label, Version: 999, Owner: 65520, Pin: 1}))
	}
	if got := impl.AnswerText(answerOfRecord(impl.Record{Label: "bob", Version: 1, Owner: 60227, Pin: 5})); got.Text != "bob 1 60227 5" {
		t.Errorf("AnswerText of bob = %+v", got)
	}
	for _, d := range someDirectories() {
		for _, label := range []string{"bob", "BOB", keyLabels[3][0], keyLabels[3][1], keyLabels[255][0]} {
			seeAnswerText(t, impl.AnswerOf(d, label).Answer)
		}
	}
}

// Each code alone, and several at once: the key, then what stands where nothing is, then the record, then whose key it is.
func TestAnswerTextCodes(t *testing.T) {
	good := by(77, 5, 9)
	turned := func(turn func(r *impl.Record)) impl.Record {
		r := good
		turn(&r)
		return r
	}
	records := map[string]struct {
		r    impl.Record
		code int64
	}{
		"no label":                   {impl.Record{}, impl.ErrForm},
		"a long label":               {turned(func(r *impl.Record) { r.Label = "abcdefghijklm" }), impl.ErrMany},
		"a label with a blank":       {turned(func(r *impl.Record) { r.Label = "a b" }), impl.ErrText},
		"bytes that are no text":     {turned(func(r *impl.Record) { r.Label = "\xff" }), impl.ErrText},
		"a label that is not folded": {turned(func(r *impl.Record) { r.Label = strings.ToUpper(r.Label) }), impl.ErrForm},
		"the version 0":              {turned(func(r *impl.Record) { r.Version = 0 }), impl.ErrRange},
		"the version 1000":           {turned(func(r *impl.Record) { r.Version = 1000 }), impl.ErrRange},
		"an owner of 65521":          {turned(func(r *impl.Record) { r.Owner = 65521 }), impl.ErrRange},
		"an owner of -1":             {turned(func(r *impl.Record) { r.Owner = -1 }), impl.ErrRange},
		"a pin of 65521":             {turned(func(r *impl.Record) { r.Pin = 65521 }), impl.ErrRange},
		"nothing turned":             {good, impl.OK},
	}
	for name, x := range records {
		for key := int64(-1); key < 257; key++ {
			code := x.code
			switch {
			case key == -1 || key == 256:
				code = impl.ErrRange
			case code == impl.OK && key != 77:
				code = impl.ErrForm
			}
			if got := seeAnswerText(t, impl.Answer{Key: key, There: true, Record: x.r}); got.Code != code || code != impl.OK && !noAnswerText(got, code) {
				t.Fatalf("%s at %d: AnswerText = %+v, not code %d", name, key, got, code)
			}
			// Where nothing is no record is asked for its fault, but whether it is zero.
			code = formUnless(x.r == impl.Record{})
			if key == -1 || key == 256 {
				code = impl.ErrRange
			}
			if got := seeAnswerText(t, impl.Answer{Key: key, Record: x.r}); got.Code != code {
				t.Fatalf("%s at %d, not there: AnswerText = %+v, not code %d", name, key, got, code)
			}
		}
	}
	for name, r := range map[string]impl.Record{"a label": {Label: "x"}, "a version": {Version: 1}, "an owner": {Owner: 1}, "a pin": {Pin: -1}} {
		if got := seeAnswerText(t, impl.Answer{Key: 5, Record: r}); !noAnswerText(got, impl.ErrForm) {
			t.Errorf("nothing there, and %s: AnswerText = %+v", name, got)
		}
	}
	for _, label := range slices.Concat(noLabels, notFolded) {
		for _, version := range []int64{0, 1} {
			r := impl.Record{Label: label, Version: version}
			if got := seeAnswerText(t, impl.Answer{Key: 300, There: true, Record: r}); !noAnswerText(got, impl.ErrRange) {
				t.Errorf("%q at 300: AnswerText = %+v", label, got)
			}
			if got := seeAnswerText(t, impl.Answer{Key: keyBy(label), There: true, Record: r}); !noAnswerText(got, recordCode(r)) {
				t.Errorf("%q: AnswerText = %+v, not code %d", label, got, recordCode(r))
			}
		}
	}
	for _, key := range slices.Concat(farNumbers, noKeys) {
		for _, a := range []impl.Answer{{Key: key}, {Key: key, There: true, Record: good}, {Key: key, Record: good}, {Key: key, There: true}} {
			seeAnswerText(t, a)
		}
	}
}

// By hand: a move told by lines, what each one says, and where a code stands what it leaves as it was.
func TestStepScriptExamples(t *testing.T) {
	s := impl.NewServer().Server
	first := headForBy(impl.Directory{}, 1, impl.PhaseIdle, 0).Head
	bob := impl.Record{Label: "bob", Version: 1, Owner: 60227, Pin: 5}
	second := headForBy(impl.Directory{Records: []impl.Record{bob}}, 2, impl.PhaseCopying, sumBack(headPacked(first))).Head
	for at, x := range []struct {
		line string
		code int64
		said string
		log  int
	}{
		{"phase", 0, "1 0", 0},
		{"check bob", 0, "right", 0},
		{"old 1 bob", impl.ErrNone, "", 0},
		{"close", 0, headTextBy(first).Text, 1},
		{"old 1 bob", 0, "none", 1},
		{"new 1 bob", 0, "none again", 1},
		{"set Bob 5 7", 0, "ok", 2},
		{"old 1 bob", 0, "none", 2},
		{"set BOB 6 8", impl.ErrOwner, "", 2},
		{"start", 0, "ok", 3},
		{"start", impl.ErrState, "", 3},
		{"copy 200", 0, "ok", 4},
		{"phase", 0, "2 200", 4},
		{"close", 0, headTextBy(second).Text, 5},
		{"old 2 BOB", 0, "bob 1 60227 5", 5},
		{"new 2 bob", 0, "bob 1 60227 5 again", 5},
		{"set bob 65520 7", 0, "ok", 6},
		{"crash 0", 0, "ok", 5},
		{"set bOb 9 7", 0, "ok", 6},
		{"crash 1", 0, "ok", 6},
		{"crash 99999", 0, "ok", 6},
		{"over", impl.ErrState, "", 6},
		{"copy 56", 0, "ok", 7},
		{"phase", 0, "3 256", 7},
		{"over", 0, "ok", 8},
		{"back", impl.ErrState, "", 8},
		{"crash 1", 0, "ok", 7},
		{"back", 0, "ok", 8},
		{"phase", 0, "5 0", 8},
		{"", 0, "", 8},
		{"   ", 0, "", 8},
		{"wink", impl.ErrText, "", 8},
		{"check bob", 0, "right", 8},
		{"check zzz", 0, "right", 8},
	} {
		got := seeLine(t, s, x.line)
		if got.Code != x.code || got.Said != x.said {
			t.Fatalf("line %d, %q: %+v", at, x.line, got)
		}
		if got.Code == impl.OK {
			s = got.Server
		}
		if len(s.Log) != x.log {
			t.Fatalf("line %d, %q: %+v", at, x.line, s)
		}
	}
	if records := s.State.Directory.Records; len(records) != 1 || records[0] != (impl.Record{Label: "bob", Version: 2, Owner: 60227, Pin: 9}) {
		t.Errorf("%+v", records)
	}
}

// scriptServers: in each phase, of no epoch and of some, with a label that is there twice over; small, so that much can be asked of them.
func scriptServers() []impl.Server {
	return []impl.Server{
		impl.NewServer().Server,
		serverOf(2, opPut(3, 1), opClose),
		serverOf(3, opPut(3, 1), opStart, opClose, opCopy(100)),
		serverOf(3, opPut(3, 1), opStart, opClose, opCopy(256)),
		serverOf(4, opPut(3, 1), opStart, opCopy(256), opClose, opPut(3, 2)),
		serverOf(5, opPut(3, 1), opStart, opCopy(256), opOver, opClose),
		serverOf(4, opPut(3, 1), opStart, opBack, opClose, opPut(77, 1)),
	}
}

// goodLines: of each word, in what can be done by some server.
func goodLines() []string {
	one, two := keyLabels[3][0], keyLabels[3][1]
	return []string{"set bob 5 7", "set " + one + " 5 9", "start", "copy 156", "back", "over", "close", "crash 1", "old 1 " + one, "new 1 " + one, "old 1 " + two, "new 2 bob", "phase", "check " + one, "check bob"}
}

// Each word in each phase: what may be done is done, and what may not has its code.
func TestStepScriptInEachPhase(t *testing.T) {
	done := map[string]bool{}
	for _, s := range scriptServers() {
		for _, line := range goodLines() {
			if got := seeLine(t, s, line); got.Code == impl.OK {
				done[fmt.Sprint(wordsBy(line)[0], " ", s.State.Phase)] = true
			}
		}
	}
	may := map[string]string{"set": "12345", "start": "15", "copy": "2", "back": "23", "over": "3", "close": "12345", "crash": "12345", "old": "12345", "new": "12345", "phase": "12345", "check": "12345"}
	for word, phases := range may {
		for _, phase := range allPhases {
			if done[fmt.Sprint(word, " ", phase)] != strings.Contains(phases, fmt.Sprint(phase)) {
				t.Errorf("%q in the phase %d: done %v", word, phase, done[fmt.Sprint(word, " ", phase)])
			}
		}
	}
}

// Blanks, several of them, ahead, between and behind, part words and nothing else.
func TestStepScriptBlanks(t *testing.T) {
	for _, s := range scriptServers() {
		for _, line := range goodLines() {
			want := seeLine(t, s, line)
			for _, other := range []string{" " + line, line + " ", "   " + line + "  ", strings.ReplaceAll(line, " ", "   "), " " + strings.ReplaceAll(line, " ", "  ") + strings.Repeat(" ", 300)} {
				if got := seeLine(t, s, other); !sameScript(got, want) {
					t.Fatalf("StepScript(%+v, %q) = %+v, not %+v", s, other, got, want)
				}
			}
			for _, other := range []string{"\t", "\r", "\x00", "\v", "\xc2\xa0", "\xe3\x80\x80", "\xff", "_"} {
				if got := seeLine(t, s, strings.ReplaceAll(line, " ", other)); strings.Contains(line, " ") && !noScript(got, impl.ErrText) {
					t.Fatalf("StepScript(%+v, %q) with %q for blanks = %+v", s, line, other, got)
				}
				// Behind a label it may be a piece of it.
				if got := seeLine(t, s, line+other); !strings.HasSuffix(lineForms[wordsBy(line)[0]], "L") && !noScript(got, impl.ErrText) {
					t.Fatalf("StepScript(%+v, %q) with %q behind = %+v", s, line, other, got)
				}
			}
		}
		for _, none := range []string{"", " ", "  ", strings.Repeat(" ", 1000)} {
			if got := seeLine(t, s, none); !sameScript(got, impl.ScriptResult{Server: s}) {
				t.Fatalf("no words: StepScript(%+v, %q) = %+v", s, none, got)
			}
		}
	}
}

// Words that are none of those that are listed, too few and too many of them, and numbers where labels stand.
func TestStepScriptWords(t *testing.T) {
	var bad []string
	for word, form := range lineForms {
		words := []string{word}
		for _, what := range form {
			words = append(words, map[rune]string{'N': "1", 'L': "bob"}[what])
		}
		line := strings.Join(words, " ")
		bad = append(bad, strings.ToUpper(word[:1])+line[1:], strings.ToUpper(word)+line[len(word):], "x"+line, word+"s"+line[len(word):], line[1:], word[:len(word)-1]+line[len(word):], "do "+line, line+" 1", line+" bob", line+" "+line, line+" .")
		for at := range words {
			bad = append(bad, strings.Join(slices.Delete(slices.Clone(words), at, at+1), " "))
			bad = append(bad, strings.Join(slices.Insert(slices.Clone(words), at, "1"), " "))
		}
	}
	bad = append(bad, "wink", "update bob 5 7", "put bob 5 7", "get bob", "1", "0", "bob", "ok", "none", "right", "old bob 1", "new bob 1", "set 5 bob 7", "set 5 7 bob", "set bob 5", "set bob 5 7 9", "copy", "copy copy", "copy bob", "crash", "crash all", "check", "check bob bob", "phase 1", "old 1", "old bob", "old", "!", "! 5", "#", "set", "\xff", "\x00", "\xc3\xa9", "\xefstart", "start\x00", "st\xffart", "sta rt")
	seen := 0
	for _, s := range scriptServers() {
		for _, line := range bad {
			words := wordsBy(line)
			if len(words) == 0 || isLineBy(words) {
				continue
			}
			if got := seeLine(t, s, line); !noScript(got, impl.ErrText) {
				t.Fatalf("StepScript(%+v, %q) = %+v", s, line, got)
			}
			seen++
		}
	}
	if seen < 700 {
		t.Errorf("%d lines alone", seen)
	}
}

// Numbers of 1 to 5 digits, at each place where one stands; what is none has ErrText, whatever else is so.
func TestStepScriptNumbers(t *testing.T) {
	good := []string{"0", "1", "2", "9", "10", "56", "99", "100", "156", "157", "255", "256", "257", "999", "1000", "1001", "9999", "10000", "65519", "65520", "65521", "65535", "65536", "99999"}
	bad := []string{"00", "01", "000", "007", "0256", "00000", "000001", "099999", "100000", "123456", "999999", "65520000000", "4294967297", "18446744073709551617", "-1", "-0", "+1", "1.", "1.0", ".5", "1e3", "1_0", "0x1", "0b1", "1a", "a1", "a", "O", "l", "\xef\xbc\x91", "\xd9\xa1", "\xff", "1\xff", "1\x00", "1\t", "\t1", "1\r", "1,", "1/", "1:", "/", ":"}
	one := keyLabels[3][0]
	for _, s := range scriptServers() {
		for _, form := range []string{"set bob %s 7", "set bob 5 %s", "set " + one + " %s 9", "set " + one + " 5 %s", "copy %s", "crash %s", "old %s " + one, "new %s bob"} {
			for _, n := range good {
				if got := seeLine(t, s, strings.Replace(form, "%s", n, 1)); got.Code == impl.ErrText {
					t.Fatalf("StepScript(%+v, %q) with %q = %+v", s, form, n, got)
				}
			}
			for _, n := range bad {
				if got := seeLine(t, s, strings.Replace(form, "%s", n, 1)); !noScript(got, impl.ErrText) {
					t.Fatalf("StepScript(%+v, %q) with %q = %+v", s, form, n, got)
				}
			}
		}
	}
}

// A byte 10 anywhere in a line, also where the words are of a kind, and where there are none.
func TestStepScriptLineFeeds(t *testing.T) {
	for _, s := range scriptServers() {
		for _, line := range append(goodLines(), "", " ", "    ", "wink") {
			for at := range len(line) + 1 {
				if got := seeLine(t, s, line[:at]+"\n"+line[at:]); !noScript(got, impl.ErrText) {
					t.Fatalf("StepScript(%+v, %q) with a line feed at %d = %+v", s, line, at, got)
				}
			}
		}
	}
}

// Each byte put in, and put for another one, at each place of a line of each kind.
func TestStepScriptBytes(t *testing.T) {
	s := serverOf(2, opPut(3, 1), opClose)
	one := keyLabels[3][0]
	codes := map[int64]int{}
	for _, line := range []string{"set " + one + " 6552 9", "start", "crash 1", "old 1 " + one, "new 1 bob", "phase", "check b"} {
		for at := range len(line) + 1 {
			for is := range 256 {
				if is >= 128 && is%8 != 0 {
					continue
				}
				codes[seeLine(t, s, line[:at]+string([]byte{byte(is)})+line[at:]).Code]++
				if at < len(line) {
					codes[seeLine(t, s, line[:at]+string([]byte{byte(is)})+line[at+1:]).Code]++
				}
			}
		}
	}
	for _, code := range []int64{impl.OK, impl.ErrRange, impl.ErrNone, impl.ErrText, impl.ErrOwner} {
		if codes[code] < 5 {
			t.Errorf("code %d seen %d times alone: %v", code, codes[code], codes)
		}
	}
}

// A label that is not there, that is, and other spellings of it: its version is one more each time, its owner stays.
func TestP17SetVersions(t *testing.T) {
	for _, s := range scriptServers() {
		for _, spelt := range [][]string{{"bob", "bob", "bob", "bob"}, {"Bob", "bOB", "BOB", "bob"}, {"\xc3\xa9M", "\xc3\xa9m", "\xc3\xa9M", "\xc3\xa9m"}, {"ABCDEFGHIJKL", "abcdefghijkl", "AbCdEfGhIjKl", "abcdefghijkL"}, {"~", "~", "~", "~"}} {
			if there, held := atKey(s.State.Directory, keyBy(spelt[0])); held {
				if got := seeLine(t, s, "set "+spelt[0]+" 5 7"); !noScript(got, impl.ErrTaken) {
					t.Fatalf("%q by %+v: %+v", spelt[0], there, got)
				}
				continue
			}
			is := s
			for at, label := range spelt {
				pin := int64(65520 - at)
				got := seeLine(t, is, fmt.Sprint("set ", label, " ", pin, " 999"))
				want := impl.Record{Label: foldedBy(spelt[0]), Version: int64(at) + 1, Owner: ownerBy(999), Pin: pin}
				if told := impl.LookRecord(got.Server.State.Directory, spelt[0]); got.Code != impl.OK || told.Record != want {
					t.Fatalf("%q of %+v: %+v, not %+v", label, is, told, want)
				}
				is = got.Server
				// Who has it not may not put it, whatever the version would be.
				if other := seeLine(t, is, fmt.Sprint("set ", spelt[0], " ", pin, " 998")); !noScript(other, impl.ErrOwner) {
					t.Fatalf("another one puts %q of %+v: %+v", label, is, other)
				}
				if !strings.HasPrefix(seeLine(t, seeLine(t, is, "close").Server, fmt.Sprint("old ", len(is.State.Heads)+1, " ", label)).Said, textBy(want)) {
					t.Fatalf("%q of %+v", label, is)
				}
			}
		}
	}
}

// Two labels that are held in turn rise each by itself.
func TestP17SetOfTwo(t *testing.T) {
	one, two := keyLabels[77][0], keyLabels[200][0]
	s := impl.NewServer().Server
	for n := range 12 {
		s = seeLine(t, s, fmt.Sprint("set ", []string{one, two, two}[n%3], " ", n, " ", []int{5, 6, 6}[n%3])).Server
	}
	if want := []impl.Record{{Label: one, Version: 4, Owner: ownerBy(5), Pin: 9}, {Label: two, Version: 8, Owner: ownerBy(6), Pin: 11}}; !slices.Equal(s.State.Directory.Records, want) {
		t.Errorf("%+v, not %+v", s.State.Directory.Records, want)
	}
}

// A secret of another number may have the same owner: it may put the label, whose owner stays.
func TestSetOwners(t *testing.T) {
	s := seeLine(t, impl.NewServer().Server, "set bob 5 139").Server
	got := seeLine(t, s, "set bob 6 256")
	if ownerBy(139) != ownerBy(256) || got.Code != impl.OK || got.Server.State.Directory.Records[0].Owner != ownerBy(139) || impl.ReadOp(got.Server.Log[1]).Op.Secret != 256 {
		t.Errorf("a secret of the same owner: %+v", got)
	}
	for secret := range int64(1001) {
		code := int64(impl.ErrOwner)
		switch {
		case secret == 1000:
			code = impl.ErrRange
		case ownerBy(secret) == ownerBy(139):
			code = impl.OK
		}
		if got := seeLine(t, s, fmt.Sprint("set BOB 6 ", secret)); got.Code != code {
			t.Fatalf("the secret %d: %+v, not code %d", secret, got, code)
		}
		if fresh := seeLine(t, s, fmt.Sprint("set zz 6 ", secret)); (fresh.Code == impl.OK) != (secret < 1000) {
			t.Fatalf("the secret %d, and nothing there: %+v", secret, fresh)
		}
	}
}

// Each code of a set alone, and several at once: the words, the label, the numbers, room in the log, the key, the owner, room.
func TestStepScriptSetCodes(t *testing.T) {
	full, twelve := serverOf(35, fullJournal()...), serverOf(12, fullJournal()[:12]...)
	one, two := keyLabels[69][0], keyLabels[69][1]
	for name, x := range map[string]struct {
		s    impl.Server
		line string
		code int64
	}{
		"no pin":                               {twelve, "set " + one + " 207", impl.ErrText},
		"a long label, and no secret":          {full, "set abcdefghijklm 5", impl.ErrText},
		"a long label, a pin of six digits":    {full, "set abcdefghijklm 100000 5", impl.ErrText},
		"a long label":                         {twelve, "set abcdefghijklm 5 7", impl.ErrMany},
		"a label that is no text":              {twelve, "set a\xff 5 7", impl.ErrText},
		"a long label, a pin of 65521":         {full, "set abcdefghijklm 65521 1000", impl.ErrMany},
		"a label with a tab, a secret of 1000": {full, "set a\tb 65520 1000", impl.ErrText},
		"a pin of 65520, a secret of 207":      {twelve, "set " + one + " 65520 207", impl.OK},
		"a pin of 65521":                       {twelve, "set " + one + " 65521 207", impl.ErrRange},
		"a pin of 99999":                       {twelve, "set " + one + " 99999 207", impl.ErrRange},
		"a pin of 65536":                       {twelve, "set " + one + " 65536 207", impl.ErrRange},
		"a secret of 999":                      {twelve, "set " + one + " 0 999", impl.ErrOwner},
		"a secret of 1000":                     {twelve, "set " + one + " 0 1000", impl.ErrRange},
		"a secret of 99999":                    {twelve, "set " + one + " 0 99999", impl.ErrRange},
		"a secret of 1207":                     {twelve, "set " + one + " 0 1207", impl.ErrRange},
		"a pin of 65521, and no room":          {full, "set " + one + " 65521 207", impl.ErrRange},
		"a secret of 1000, and no room":        {full, "set " + one + " 5 1000", impl.ErrRange},
		"no room in the log":                   {full, "set " + one + " 5 207", impl.ErrFull},
		"no room, another one's":               {full, "set " + one + " 5 208", impl.ErrFull},
		"no room, another label of the key":    {full, "set " + two + " 5 207", impl.ErrFull},
		"another label of the key":             {twelve, "set " + two + " 5 207", impl.ErrTaken},
		"another label of the key, raised":     {twelve, "set " + strings.ToUpper(two) + " 5 207", impl.ErrTaken},
		"another label of the key, by another": {twelve, "set " + two + " 5 208", impl.ErrTaken},
		"another one's":                        {twelve, "set " + one + " 5 208", impl.ErrOwner},
		"a thirteenth":                         {twelve, "set " + keyLabels[5][0] + " 5 7", impl.ErrFull},
		"a thirteenth, a pin of 65521":         {twelve, "set " + keyLabels[5][0] + " 65521 7", impl.ErrRange},
		"one of twelve":                        {twelve, "set " + one + " 5 207", impl.OK},
		"one of twelve, raised":                {twelve, "set " + strings.ToUpper(one) + " 5 207", impl.OK},
	} {
		if got := seeLine(t, x.s, x.line); got.Code != x.code || x.code != impl.OK && !noScript(got, x.code) {
			t.Errorf("%s: %+v, not code %d", name, got, x.code)
		}
	}
	// A label with a blank is two words.
	for _, label := range slices.Concat(goodLabels, notFolded, noLabels) {
		for _, s := range scriptServers()[:2] {
			code := int64(impl.ErrText)
			if words := wordsBy(label); len(words) == 1 && !strings.Contains(label, "\n") {
				code = labelCode(words[0])
			}
			if got := seeLine(t, s, "set "+label+" 5 7"); got.Code != code {
				t.Errorf("set %q: %+v, not code %d", label, got, code)
			}
		}
	}
}

// A copy of as many as may be, of 0 and of 257, where it copies and where it does not, with room and with none.
func TestStepScriptCopies(t *testing.T) {
	full := append([]impl.Op{opStart}, slices.Repeat([]impl.Op{opBack, opStart}, 19)...)
	for n := range int64(300) {
		line := fmt.Sprint("copy ", n)
		for _, x := range []struct {
			s    impl.Server
			code int64
		}{
			{serverOf(0, opStart), impl.OK},
			{serverOf(0, opStart, opCopy(255)), impl.OK},
			{impl.NewServer().Server, impl.ErrState},
			{serverOf(0, opStart, opCopy(256)), impl.ErrState},
			{serverOf(0, append(full, opCopy(1))...), impl.ErrFull},
		} {
			if n < 1 || n > 256 {
				x.code = impl.ErrRange
			}
			if len(x.s.Log) == 40 && n%16 > 2 {
				continue
			}
			got := seeLine(t, x.s, line)
			if got.Code != x.code {
				t.Fatalf("%q of %+v: %+v, not code %d", line, x.s, got, x.code)
			}
			if was := x.s.State.Cursor; got.Code == impl.OK && got.Server.State.Cursor != min(was+n, 256) {
				t.Fatalf("%q of %+v: %+v", line, x.s, got)
			}
		}
	}
}

// A crash with any number left: what it says, and what is left.
func TestStepScriptCrashes(t *testing.T) {
	for _, ops := range [][]impl.Op{nil, wholeMove[:6], wholeMove[:14], wholeMove} {
		safe := safeBy(ops)
		s := serverOf(safe, ops...)
		loose := int64(len(ops)) - safe
		for _, keep := range []int64{0, 1, 2, 3, loose, loose + 1, 40, 41, 99, 100, 101, 65521, 99999} {
			got := seeLine(t, s, fmt.Sprint("crash ", keep))
			if left := safe + min(keep, loose); got.Said != "ok" || got.Server.Safe != left || int64(len(got.Server.Log)) != left || !slices.Equal(got.Server.State.Heads, s.State.Heads) {
				t.Fatalf("a crash of %+v with %d left: %+v", s, keep, got)
			}
		}
	}
}

// What a log that is full has room for: what asks, a crash, and nothing else.
func TestStepScriptFull(t *testing.T) {
	s := serverOf(35, fullJournal()...)
	one := keyLabels[69][0]
	for _, line := range []string{"set " + one + " 5 207", "set bob 5 7", "start", "copy 1", "copy 256", "back", "over", "close"} {
		if got := seeLine(t, s, line); !noScript(got, impl.ErrFull) {
			t.Errorf("%q, and no room: %+v", line, got)
		}
	}
	for line, said := range map[string]string{"": "", "phase": "4 256", "check " + one: "right", "crash 99": "ok", "old 10 " + one: textBy(by(69, 2, 207)), "new 10 " + one: textBy(by(69, 2, 207)), "old 9 " + one: textBy(by(69, 2, 207)), "new 1 " + one: textBy(by(69, 1, 207)) + " again", "new 10 " + keyLabels[69][1]: "none"} {
		if got := seeLine(t, s, line); got.Code != impl.OK || got.Said != said {
			t.Errorf("%q, and no room: %+v, not %q", line, got, said)
		}
	}
	// A crash makes room.
	got := seeScript(t, s, "start\ncrash 4\nset "+one+" 5 207\nset "+one+" 6 207\ncrash 0\nset "+one+" 7 207\nphase\n")
	if got.Said != "! 11\nok\nok\n! 11\nok\nok\n4 256\n" || len(got.Server.Log) != 40 || got.Server.Safe != 39 {
		t.Errorf("%+v", got)
	}
}

// An epoch that is closed says its head; behind MaxEpochs there is none any more.
func TestP17Closes(t *testing.T) {
	for _, s := range scriptServers() {
		for n := len(s.State.Heads); n < 10; n++ {
			got := seeLine(t, s, "close")
			heads := got.Server.State.Heads
			if got.Code != impl.OK || len(heads) != n+1 || got.Said != headTextBy(heads[n]).Text || got.Server.Safe != int64(len(s.Log)+1) {
				t.Fatalf("close of %+v: %+v", s, got)
			}
			if !strings.HasPrefix(got.Said, fmt.Sprint(n+1, " ", s.State.Phase, " ")) {
				t.Fatalf("close of %+v says %q", s, got.Said)
			}
			s = got.Server
		}
		if got := seeLine(t, s, "close"); !noScript(got, impl.ErrFull) {
			t.Fatalf("an epoch too much: %+v", got)
		}
	}
}

// Every epoch, by either tree first: ` again` stands just where the head has not the root that was asked first.
func TestP17OldAndNew(t *testing.T) {
	seen := map[string]int{}
	servers := append(scriptServers(), serverOf(21, wholeMove...), serverOf(35, fullJournal()...))
	for _, s := range servers {
		labels := clientLabels(s.State)
		if len(s.Log) > 20 {
			labels = labels[:6]
		}
		for epoch := range int64(len(s.State.Heads)) + 2 {
			for _, label := range append(labels, keyLabels[3][0], keyLabels[3][1], strings.ToUpper(keyLabels[3][0])) {
				for _, word := range []string{"old", "new"} {
					got := seeLine(t, s, fmt.Sprint(word, " ", epoch, " ", label))
					if epoch == 0 || epoch > int64(len(s.State.Heads)) {
						if !noScript(got, impl.ErrNone) {
							t.Fatalf("%s %d %q of %+v: %+v", word, epoch, label, s, got)
						}
						continue
					}
					forms := formsBy(s.State.Heads[epoch-1]).Value
					again := word == "old" && forms == 2 || word == "new" && forms == 1
					if strings.HasSuffix(got.Said, " again") != again {
						t.Fatalf("%s %d %q of %+v: %+v", word, epoch, label, s, got)
					}
					seen[fmt.Sprint(word, forms, strings.HasPrefix(got.Said, "none"))]++
				}
			}
		}
	}
	for _, word := range []string{"old", "new"} {
		for forms := 1; forms < 4; forms++ {
			for _, none := range []bool{true, false} {
				if what := fmt.Sprint(word, forms, none); seen[what] < 5 {
					t.Errorf("%s: seen %d times alone: %v", what, seen[what], seen)
				}
			}
		}
	}
}

// Labels with a fault, by each word that has one; where there is no such epoch that is told ahead of it.
func TestStepScriptLabels(t *testing.T) {
	s := serverOf(2, opPut(3, 1), opClose)
	for _, label := range slices.Concat(goodLabels, notFolded, noLabels) {
		if len(wordsBy(label)) != 1 || strings.Contains(label, " ") || strings.Contains(label, "\n") {
			continue
		}
		for line, code := range map[string]int64{"old 1 ": labelCode(label), "new 1 ": labelCode(label), "old 2 ": impl.ErrNone, "new 0 ": impl.ErrNone, "old 99999 ": impl.ErrNone, "check ": labelCode(label)} {
			if got := seeLine(t, s, line+label); got.Code != code || code != impl.OK && !noScript(got, code) {
				t.Errorf("%q of %q: %+v, not code %d", line, label, got, code)
			}
		}
	}
}

// What is checked is right of all that has no fault: a label that is there, that is not, and whose key another one has.
func TestP17Checks(t *testing.T) {
	for _, s := range append(scriptServers(), worldServers()...) {
		for _, label := range []string{keyLabels[3][0], strings.ToUpper(keyLabels[3][0]), keyLabels[3][1], keyLabels[252][0], "bob", "zzz"} {
			if got := seeLine(t, s, "check "+label); got.Said != "right" || !sameServer(got.Server, s) {
				t.Fatalf("check %q of %+v: %+v", label, s, got)
			}
		}
		if got := seeLine(t, s, "phase"); got.Said != fmt.Sprintf("%d %d", s.State.Phase, s.State.Cursor) {
			t.Fatalf("the phase of %+v: %+v", s, got)
		}
	}
}

// A server with a fault has its code, whatever the line is, or the script.
func TestScriptServersWithAFault(t *testing.T) {
	lines := append(goodLines(), "", " ", "wink", "start\n", "set bob 65521 1000", "set abcdefghijklm 5 7", "copy 0", "check a\tb", "old 0 \xff")
	for _, s := range brokenServers() {
		code := serverCode(s)
		for _, line := range lines {
			if got := seeLine(t, s, line); !noScript(got, code) || code == impl.OK {
				t.Fatalf("StepScript(%+v, %q) = %+v, not code %d", s, line, got, code)
			}
		}
		for _, text := range []string{"", "\n", "start\nclose\n", "wink", strings.Repeat("a", 1001), strings.Repeat("\n", 25), strings.Repeat("phase\n", 24)} {
			if got := seeScript(t, s, text); !noScript(got, code) {
				t.Fatalf("RunScript(%+v, %q) = %+v, not code %d", s, text, got, code)
			}
		}
	}
	// Each of the turns, by its own code.
	for _, x := range serverTurns() {
		bad := turnedServer(serverOf(7, wholeMove[:8]...), x.turn)
		for _, line := range []string{"phase", "", "wink", "start\n"} {
			if got := seeLine(t, bad, line); !noScript(got, x.code) {
				t.Errorf("%s: StepScript of %q = %+v, not code %d", x.name, line, got, x.code)
			}
			if got := seeScript(t, bad, line); !noScript(got, x.code) {
				t.Errorf("%s: RunScript of %q = %+v, not code %d", x.name, line, got, x.code)
			}
		}
	}
}

// Lines of all words on servers of all kinds.
func TestStepScriptAll(t *testing.T) {
	codes := map[int64]int{}
	for _, s := range slices.Concat(fewServers(), worldServers()) {
		lines := append(goodLines(), "copy 0", "copy 257", "set bob 65521 7", "set bob 5 1000", "set "+keyLabels[3][1]+" 5 7", "set "+keyLabels[3][0]+" 5 8", "set abcdefghijklm 5 7", "wink", "", "crash 0", "new 10 bob", "old 11 bob")
		if len(s.Log) == 40 {
			lines = lines[1:17]
		}
		for _, line := range lines {
			codes[seeLine(t, s, line).Code]++
		}
	}
	for _, code := range []int64{impl.OK, impl.ErrMany, impl.ErrRange, impl.ErrNone, impl.ErrText, impl.ErrTaken, impl.ErrOwner, impl.ErrState, impl.ErrFull} {
		if codes[code] < 5 {
			t.Errorf("code %d seen %d times alone: %v", code, codes[code], codes)
		}
	}
}

// By hand: scripts, their lines, and what is said of each one.
func TestRunScriptExamples(t *testing.T) {
	s := impl.NewServer().Server
	head := headTextBy(headForBy(impl.Directory{}, 1, impl.PhaseIdle, 0).Head).Text
	for text, said := range map[string]string{
		"":                                       "",
		"\n":                                     "",
		"\n\n\n":                                 "",
		"   ":                                    "",
		"  \n \n":                                "",
		"phase":                                  "1 0\n",
		"phase\n":                                "1 0\n",
		"phase\n\n":                              "1 0\n",
		"\nphase":                                "1 0\n",
		"\n\nphase\n\n\nphase\n\n":               "1 0\n1 0\n",
		"phase\nphase":                           "1 0\n1 0\n",
		"phase\n  phase  ":                       "1 0\n1 0\n",
		"phase phase":                            "! 5\n",
		"phase\r\nphase\n":                       "! 5\n1 0\n",
		"\r":                                     "! 5\n",
		"\x00\n\xff\n\xc3\xa9":                   "! 5\n! 5\n! 5\n",
		"wink":                                   "! 5\n",
		"wink\n":                                 "! 5\n",
		"wink\nphase\nblink":                     "! 5\n1 0\n! 5\n",
		"start\nphase":                           "ok\n2 0\n",
		"start\nstart\nphase\n":                  "ok\n! 10\n2 0\n",
		"close":                                  head + "\n",
		"close\nold 1 bob\nnew 1 bob\nold 2 bob": head + "\nnone\nnone again\n! 4\n",
		"set Bob 5 7\nclose\nset bob 6 8\nset bOB 6 7\nold 1 bob\n":                                                  "ok\n" + headTextBy(headForBy(impl.Directory{Records: []impl.Record{{Label: "bob", Version: 1, Owner: 60227, Pin: 5}}}, 1, 1, 0).Head).Text + "\n! 8\nok\nbob 1 60227 5\n",
		"set bob 65521 7\nset bob 5 1000\nset abcdefghijklm 5 7\nset a\tb 5 7\ncopy 0\ncopy 257\ncopy 1\nover\nback": "! 3\n! 3\n! 2\n! 5\n! 3\n! 3\n! 10\n! 10\n! 10\n",
		"check bob\ncheck a\x7f\ncheck":                                "right\n! 5\n! 5\n",
		"start\ncopy 256\nover\nphase\ncrash 2\nphase\ncrash 0\nphase": "ok\nok\nok\n4 256\nok\n3 256\nok\n3 256\n",
	} {
		if got := seeScriptCut(t, s, text); got.Code != impl.OK || got.Said != said {
			t.Errorf("RunScript(%q) = %+v, not %q", text, got, said)
		}
	}
}

// 999 bytes, 1000 and 1001; what is too long is not done, and its lines are not counted.
func TestRunScriptBytes(t *testing.T) {
	s := serverOf(2, opPut(3, 1), opClose)
	for _, n := range []int{0, 1, 2, 998, 999, 1000, 1001, 1002, 5000} {
		code := int64(impl.OK)
		if n > 1000 {
			code = impl.ErrMany
		}
		for _, text := range []string{strings.Repeat(" ", n), strings.Repeat("a", n), strings.Repeat("\xff", n)} {
			got := seeScript(t, s, text)
			if got.Code != code || code != impl.OK && !noScript(got, code) || code == impl.OK && !sameServer(got.Server, s) {
				t.Fatalf("%d bytes: %+v, not code %d", n, got, code)
			}
		}
		if n < 998 {
			continue
		}
		// What is done stands at the very end, with a line feed and without.
		for _, end := range []string{"start", "start\n", "\nstart", "\nstart\n"} {
			got := seeScript(t, s, strings.Repeat(" ", n-len(end))+end)
			if got.Code != code || code == impl.OK && (got.Said != "ok\n" || len(got.Server.Log) != 3) {
				t.Fatalf("%d bytes that end with %q: %+v", n, end, got)
			}
		}
	}
	for _, n := range []int{334, 999999, 1000000} {
		if got := impl.RunScript(s, strings.Repeat("a\n ", n)); !noScript(got, impl.ErrMany) {
			t.Errorf("%d lines: %+v", n, got)
		}
	}
	// Bytes are counted, not code points.
	if got := seeScript(t, s, strings.Repeat("\xc3\xa9", 501)); !noScript(got, impl.ErrMany) {
		t.Errorf("501 code points of two bytes: %+v", got)
	}
}

// 23 lines, 24 and 25, with a line feed at the end and without, and empty ones among them.
func TestRunScriptLines(t *testing.T) {
	s := serverOf(2, opPut(3, 1), opClose)
	for _, n := range []int{1, 2, 23, 24, 25, 26, 48, 200} {
		for _, line := range []string{"", " ", "wink", "phase"} {
			text := strings.Repeat(line+"\n", n)
			if len(text) > 1000 {
				continue
			}
			code := int64(impl.OK)
			if n > 24 {
				code = impl.ErrMany
			}
			if got := seeScript(t, s, text); got.Code != code || code != impl.OK && !noScript(got, code) {
				t.Fatalf("%d lines of %q: %+v, not code %d", n, line, got, code)
			}
			// What is behind the last line feed is a line, if it is not empty.
			for _, rest := range []string{" ", "a", "phase", "\r"} {
				code := int64(impl.OK)
				if n > 23 {
					code = impl.ErrMany
				}
				if got := seeScript(t, s, text+rest); got.Code != code || code != impl.OK && !noScript(got, code) {
					t.Fatalf("%d lines of %q and %q: %+v, not code %d", n, line, rest, got, code)
				}
			}
			if got := seeScript(t, s, strings.TrimSuffix(text, "\n")); (got.Code == impl.OK) != (n < 25 || n == 25 && line == "") {
				t.Fatalf("%d lines of %q, and no line feed at the end: %+v", n, line, got)
			}
		}
	}
	// All lines are done, the last one too.
	text := strings.Repeat("start\nback\n", 11) + "start\n"
	for _, last := range []string{"phase", "phase\n"} {
		if got := seeScript(t, s, text+last); got.Said != strings.Repeat("ok\n", 23)+"2 0\n" || len(got.Server.Log) != 25 {
			t.Errorf("24 lines: %+v", got)
		}
	}
	if got := seeScript(t, s, text+"phase\n\n"); !noScript(got, impl.ErrMany) {
		t.Errorf("25 lines, the last one empty: %+v", got)
	}
}

// badLines: each with a code, whatever was done by then of wholeMove.
func badLines() map[string]int64 {
	return map[string]int64{
		"wink": impl.ErrText, "\xff": impl.ErrText, "start now": impl.ErrText, "set bob 5": impl.ErrText, "copy 01": impl.ErrText, "start\r": impl.ErrText,
		"set abcdefghijklm 5 7": impl.ErrMany, "set bob\x01 5 7": impl.ErrText, "set bob 65521 7": impl.ErrRange, "set bob 5 1000": impl.ErrRange,
		"copy 0": impl.ErrRange, "copy 257": impl.ErrRange, "old 0 bob": impl.ErrNone, "new 11 bob": impl.ErrNone, "check abcdefghijklm": impl.ErrMany,
	}
}

// Lines with a code in a row of others: each one at each place turns nothing, and says `! ` and the code.
func TestP17LinesWithCodes(t *testing.T) {
	s := impl.NewServer().Server
	lines := linesFor(wholeMove[:12])
	plain := seeScriptCut(t, s, textOf(lines...))
	said := strings.SplitAfter(plain.Said, "\n")
	if len(said) != 13 || strings.Contains(plain.Said, "!") || !sameServer(plain.Server, serverOf(7, wholeMove[:12]...)) {
		t.Fatalf("RunScript(%q) = %+v", lines, plain)
	}
	for at := range len(lines) + 1 {
		for line, code := range badLines() {
			got := impl.RunScript(s, textOf(slices.Insert(slices.Clone(lines), at, line)...))
			want := strings.Join(slices.Insert(slices.Clone(said), at, fmt.Sprintf("! %d\n", code)), "")
			if got.Code != impl.OK || got.Said != want || !sameServer(got.Server, plain.Server) {
				t.Fatalf("%q at %d: RunScript = %+v, not %q", line, at, got, want)
			}
		}
		// What may not be done by now, of each code that it may have; and what turns nothing.
		is := impl.RunScript(s, textOf(lines[:at]...)).Server
		for _, line := range []string{"start", "copy 9", "back", "over", "set " + keyLabels[3][0] + " 5 8", "set " + keyLabels[3][1] + " 5 9", "", "  ", "phase", "check " + keyLabels[3][0], "old 1 " + keyLabels[3][0], "new 1 " + keyLabels[3][0]} {
			did := lineBy(is, line)
			if did.Code == impl.OK && !sameServer(did.Server, is) {
				continue
			}
			tells := did.Said
			switch {
			case did.Code != impl.OK:
				tells = fmt.Sprintf("! %d\n", did.Code)
			case tells != "":
				tells += "\n"
			}
			got := impl.RunScript(s, textOf(slices.Insert(slices.Clone(lines), at, line)...))
			if got.Said != strings.Join(slices.Insert(slices.Clone(said), at, tells), "") || !sameServer(got.Server, plain.Server) {
				t.Fatalf("%q at %d: RunScript = %+v, which tells %q alone", line, at, got, tells)
			}
		}
	}
	var all []string
	want := ""
	for line, code := range badLines() {
		all, want = append(all, line), want+fmt.Sprintf("! %d\n", code)
	}
	for _, s := range fewServers()[:6] {
		if got := seeScript(t, s, textOf(all...)); got.Said != want || !sameServer(got.Server, s) {
			t.Fatalf("RunScript(%+v, %q) = %+v, not %q", s, all, got, want)
		}
	}
}

// chunked: lines as scripts that may be.
func chunked(lines []string) []string {
	var out []string
	text, n := "", 0
	for _, line := range lines {
		if n == 24 || len(text)+len(line)+1 > 1000 {
			out, text, n = append(out, text), "", 0
		}
		text, n = text+line+"\n", n+1
	}
	return append(out, text)
}

// Whole journals told by lines lead where their operations do.
func TestP17Journals(t *testing.T) {
	for _, ops := range worldJournals() {
		s := impl.NewServer().Server
		said := ""
		for _, text := range chunked(linesFor(ops)) {
			got := seeScript(t, s, text)
			s, said = got.Server, said+got.Said
		}
		if want := serverOf(safeBy(ops), ops...); !sameServer(s, want) {
			t.Fatalf("%q: %+v, not %+v", linesFor(ops), s, want)
		}
		told := strings.Split(said, "\n")
		epoch := 0
		for at, o := range ops {
			want := "ok"
			if o.Kind == impl.OpClose {
				want = headTextBy(s.State.Heads[epoch]).Text
				epoch++
			}
			if told[at] != want {
				t.Fatalf("%q says %q of the line %d, not %q", linesFor(ops), told[at], at, want)
			}
		}
	}
}

// rolledLines: lines of a history that is thrown by the number of the walk; some with a code, some that ask, some crashes and blanks among them.
func rolledLines(walk uint32, n int) []string {
	dice := walk*2654435761 + 1616
	roll := func(n int64) int64 {
		dice = dice*1664525 + 1013904223
		return int64(dice>>8) % n
	}
	bad := slices.Sorted(func(yield func(string) bool) {
		for line := range badLines() {
			if !yield(line) {
				return
			}
		}
	})
	is := serverOf(2, wholeMove[:3]...)
	var out []string
	for range n {
		label := keyLabels[[]int64{3, 252, roll(256)}[roll(3)]][roll(2)]
		line := []string{
			fmt.Sprint("crash ", roll(5)), fmt.Sprint("old ", roll(5), " ", label), fmt.Sprint("new ", roll(5), " ", label), "phase", "check " + label,
			bad[roll(int64(len(bad)))], "", strings.Repeat(" ", int(roll(4))), fmt.Sprint("set ", strings.ToUpper(label), " ", roll(65530), " ", roll(3)+5), "close",
		}[roll(10)]
		if roll(5) < 3 {
			line = lineFor(opOf(rolled(is.State, roll)))
		}
		if roll(6) == 0 {
			line = "  " + strings.ReplaceAll(line, " ", "   ") + " "
		}
		if did := lineBy(is, line); did.Code == impl.OK {
			is = did.Server
		}
		out = append(out, line)
	}
	return out
}

// P17 along histories of all words: what is said is so, and what is cut does the same.
func TestP17Histories(t *testing.T) {
	seen := map[string]int{}
	for walk := range uint32(10) {
		s := serverOf(2, wholeMove[:3]...)
		for _, text := range chunked(rolledLines(walk, 60)) {
			is := s
			for _, line := range scriptLines(text) {
				got := seeLine(t, is, line)
				if got.Code == impl.OK {
					is = got.Server
				}
				if words := wordsBy(line); len(words) > 0 {
					seen[fmt.Sprint(words[0], " ", got.Code == impl.OK)]++
				}
			}
			see := seeScript
			if len(s.Log) < 15 {
				see = seeScriptCut
			}
			if got := see(t, s, text); !sameServer(got.Server, is) {
				t.Fatalf("RunScript(%+v, %q) = %+v, not %+v", s, text, got, is)
			}
			s = is
		}
		seeWorld(t, s, keyLabels[3][0], keyLabels[252][0])
	}
	for word := range lineForms {
		if seen[word+" true"] < 5 || seen[word+" false"] < 1 && !slices.Contains([]string{"close", "crash", "phase"}, word) {
			t.Errorf("%q: %v", word, seen)
		}
	}
}

// P17: scripts of many lines, cut behind each line feed, empty lines and lines with a code too.
func TestP17Cuts(t *testing.T) {
	one := keyLabels[3][0]
	for _, text := range []string{
		"set Bob 5 7\nclose\nphase\nset bob 6 8\nset bob 6 7\nstart\ncopy 200\nphase\ncrash 2\nphase\nold 1 bob\nnew 1 bob\nold 2 bob\nold 1 zzz\nover\ncheck bob\nwink\ncopy 257\n",
		"\n\nstart\n\n\ncopy 100\n \nclose\n\ncrash 0\nover\n\n",
		"start\ncopy 256\nclose\nover\nclose\nold 2 " + one + "\nnew 1 " + one + "\nphase\ncheck " + one,
		"close\nclose\nclose\nclose\nclose\nclose\nclose\nclose\nclose\nclose\nclose\nold 10 a\nold 11 a\n",
		"set " + one + " 1 9\nset " + one + " 2 9\ncrash 1\nset " + one + " 3 9\nclose\nold 1 " + one + "\nold 2 " + one,
		strings.Repeat("start\nback\n", 12),
		strings.Repeat("\n", 24),
		strings.Repeat("wink\n", 23) + "phase",
	} {
		for _, s := range scriptServers() {
			seeScriptCut(t, s, text)
		}
	}
}

// scriptAsked: one call of each function of the chapter.
type scriptAsked struct {
	s    impl.Server
	line string
	text string
	h    impl.Head
	a    impl.Answer
}

func (x scriptAsked) scripts() []impl.ScriptResult {
	return []impl.ScriptResult{impl.StepScript(x.s, x.line), impl.RunScript(x.s, x.text)}
}

func (x scriptAsked) words() [][]string {
	return [][]string{impl.WordsOf(x.line).Words, impl.WordsOf(x.text).Words}
}

func (x scriptAsked) texts() []string {
	return []string{impl.HeadText(x.h).Text, impl.AnswerText(x.a).Text}
}

func (x scriptAsked) ask() string {
	return fmt.Sprintf("%v %q %v %v", x.scripts(), x.words(), impl.HeadText(x.h), impl.AnswerText(x.a))
}

func someScriptsAsked() []scriptAsked {
	one := keyLabels[3][0]
	texts := []string{"", "\n", "set Bob 5 7\nclose\nold 1 bob\nnew 1 bob\nwink\ncheck bob", "start\n copy  100 \nclose\ncrash 0\n\nphase\n", strings.Repeat("wink\n", 24), strings.Repeat("\n", 25), strings.Repeat("a", 1001), "set " + one + " 5 9\nset \xff 5 7"}
	servers := append(scriptServers(), brokenServers()[:4]...)
	servers = append(servers, serverOf(7, wholeMove[:14]...), impl.Server{})
	lines := append(goodLines(), "", " ", "wink", "start\n", "set ~ 65520 999", "set a 0 0", "x")
	var out []scriptAsked
	for at, s := range servers {
		for n, line := range lines {
			r := by(int64(n*9), int64(at)+1, 5)
			a := impl.Answer{Key: int64(n * 9), There: n%2 == 0, Record: r}
			if n%4 == 1 {
				a.Record = impl.Record{}
			}
			out = append(out, scriptAsked{s, line, texts[(at+n)%len(texts)], rooted(int64(at), int64(n%6), 9), a})
		}
	}
	return out
}

// amidText: the same text, with other bytes ahead of it and behind it; and whether all of them are as they were.
func amidText(text string) (string, func() bool) {
	room := slices.Concat([]byte("set a 5 7\n"), []byte(text), []byte(" 9 \nclose\n"))
	was := string(room)
	return unsafe.String(&room[10], len(text)), func() bool { return string(room) == was }
}

// P1: what is handed in is as it was, with the room around it; and that room is not looked at.
func TestP1ScriptArgumentsStay(t *testing.T) {
	for _, x := range someScriptsAsked() {
		given := x
		var stays [4]func() bool
		given.s, stays[0] = roomyServer(x.s)
		given.line, stays[1] = amidText(x.line)
		given.text, stays[2] = amidText(x.text)
		given.a.Record.Label, stays[3] = amidText(x.a.Record.Label)
		if got, want := given.ask(), x.ask(); got != want {
			t.Fatalf("%+v with room around: %s, not %s", x, got, want)
		}
		for _, stays := range stays {
			if !stays() {
				t.Fatalf("%+v turned its arguments: %+v", x, given)
			}
		}
	}
}

// sharesText: whether a text stands where some of the other ones does.
func sharesText(text string, others ...string) bool {
	if text == "" {
		return false
	}
	at := uintptr(unsafe.Pointer(unsafe.StringData(text)))
	return slices.ContainsFunc(others, func(other string) bool {
		from := uintptr(unsafe.Pointer(unsafe.StringData(other)))
		return other != "" && at+uintptr(len(text)) > from && at < from+uintptr(len(other))
	})
}

func labelsIn(s impl.Server) []string {
	var out []string
	for _, d := range append([]impl.Directory{s.State.Directory}, s.State.Past...) {
		for _, r := range d.Records {
			out = append(out, r.Label)
		}
	}
	return out
}

// P1: no list, no bytes, no label and no text of an answer stand where those of an argument do, nor where others of it do.
func TestP1ScriptAnswersAreNew(t *testing.T) {
	done, parted := 0, 0
	for _, x := range someScriptsAsked() {
		taken := map[unsafe.Pointer]bool{}
		for _, place := range serverMemory(x.s) {
			taken[place] = true
		}
		var memory []unsafe.Pointer
		given := append(labelsIn(x.s), x.line, x.text, x.a.Record.Label)
		texts := x.texts()
		for _, got := range x.scripts() {
			memory = append(memory, serverMemory(got.Server)...)
			texts = append(texts, got.Said)
			texts = append(texts, labelsIn(got.Server)...)
			if got.Code == impl.OK {
				done++
			}
		}
		for _, words := range x.words() {
			memory = append(memory, placesOf(words)...)
			texts = append(texts, words...)
			for at, word := range words {
				parted++
				if sharesText(word, words[:at]...) {
					t.Fatalf("the word %d of %q stands where another one does", at, words)
				}
			}
		}
		for _, place := range memory {
			if taken[place] {
				t.Fatalf("an answer of %+v shares memory", x)
			}
			taken[place] = true
		}
		for _, text := range texts {
			if sharesText(text, given...) {
				t.Fatalf("the text %q of %+v shares memory", text, x)
			}
		}
	}
	if done < 200 || parted < 500 {
		t.Errorf("%d calls without a code, %d words alone", done, parted)
	}
}

// P1: whatever becomes of an answer, or of what was handed in, the other one stays.
func TestP1ScriptSpoilt(t *testing.T) {
	for _, x := range someScriptsAsked() {
		line, text, label := []byte(x.line+" "), []byte(x.text+" "), []byte(x.a.Record.Label+" ")
		given := x
		given.s = serverCopy(x.s)
		given.line, given.text = unsafe.String(&line[0], len(x.line)), unsafe.String(&text[0], len(x.text))
		given.a.Record.Label = unsafe.String(&label[0], len(x.a.Record.Label))
		want := given.ask()
		scripts, words, texts := given.scripts(), given.words(), given.texts()
		told := func() string { return fmt.Sprintf("%v %q %q", scripts, words, texts) }
		was := told()
		for _, got := range given.scripts() {
			spoilServer(got.Server)
		}
		for _, got := range given.words() {
			for at := range got[:cap(got)] {
				got[:cap(got)][at] = "spoilt"
			}
		}
		if given.ask() != want || told() != was || !sameServer(given.s, x.s) {
			t.Fatalf("%+v: an answer shares with what was handed in, or with another one", x)
		}
		spoilServer(given.s)
		for _, data := range [][]byte{line, text, label} {
			for at := range data {
				data[at] = 'x'
			}
		}
		if told() != was {
			t.Fatalf("%+v: an answer turned with what was handed in", x)
		}
	}
}

// P1: nil and an empty list are the same value.
func TestP1NoScript(t *testing.T) {
	state := impl.State{Phase: 1, Directory: impl.Directory{Records: make([]impl.Record, 0, 3)}, New: make([]impl.Slot, 0, 3), Heads: make([]impl.Head, 0, 3), Past: make([]impl.Directory, 0, 3)}
	bare, empty := impl.Server{State: impl.State{Phase: 1}}, impl.Server{State: state, Log: make([][]byte, 0, 3)}
	for _, line := range append(goodLines(), "", " ", "wink") {
		if a, b := impl.StepScript(bare, line), impl.StepScript(empty, line); !sameScript(a, b) {
			t.Errorf("empty lists: StepScript of %q = %+v, not %+v", line, b, a)
		}
		if a, b := impl.RunScript(bare, line+"\nclose\n"), impl.RunScript(empty, line+"\nclose\n"); !sameScript(a, b) {
			t.Errorf("empty lists: RunScript of %q = %+v, not %+v", line, b, a)
		}
	}
}

func TestP1ScriptsHangOnArguments(t *testing.T) {
	seeAgain(t, someScriptsAsked())
}

// P1: an answer at every argument, however far from what may be.
func TestP1ScriptEveryArgument(t *testing.T) {
	s := serverOf(2, opPut(3, 1), opClose)
	long := strings.Repeat("a", 1000000)
	for line, code := range map[string]int64{
		long: impl.ErrText, strings.Repeat(" ", 1000000): impl.OK, strings.Repeat("a ", 500000): impl.ErrText, strings.Repeat("\n", 1000000): impl.ErrText,
		"set " + long + " 5 7": impl.ErrMany, "set bob " + strings.Repeat("1", 1000000) + " 7": impl.ErrText, "copy " + strings.Repeat("0", 1000000): impl.ErrText,
		"check " + long: impl.ErrMany, "old 1 " + long: impl.ErrMany, "old 2 " + long: impl.ErrNone, "crash " + strings.Repeat("9", 1000000): impl.ErrText,
		strings.Repeat(" ", 500000) + "start" + strings.Repeat(" ", 500000): impl.OK,
	} {
		if got := seeLine(t, s, line); got.Code != code {
			t.Errorf("a line of %d bytes that begins with %q: code %d, not %d", len(line), line[:9], got.Code, code)
		}
		if got := impl.RunScript(s, line); !noScript(got, impl.ErrMany) {
			t.Errorf("a text of %d bytes that begins with %q: code %d", len(line), line[:9], got.Code)
		}
		seeWords(t, line)
	}
	if got := impl.AnswerText(impl.Answer{Key: 5, There: true, Record: impl.Record{Label: long, Version: 1}}); !noAnswerText(got, impl.ErrMany) {
		t.Errorf("a label of a million bytes: AnswerText has the code %d", got.Code)
	}
	for _, n := range farNumbers {
		for _, far := range farNumbers {
			seeAnswerText(t, impl.Answer{Key: n, There: far > 0, Record: impl.Record{Label: "bob", Version: far, Owner: n, Pin: far}})
			seeHeadText(t, impl.Head{Epoch: n, Phase: far, Old: n, New: far, Prev: n})
		}
		bad := turnedServer(s, func(s *impl.Server) { s.Safe = n })
		seeLine(t, bad, "crash 0")
		seeLine(t, bad, fmt.Sprint("crash ", n))
		seeLine(t, bad, fmt.Sprint("old ", n, " bob"))
		seeScript(t, bad, "phase\nclose\n")
	}
	for name, turn := range map[string]func(s *impl.Server){
		"a million in the log":         func(s *impl.Server) { s.Log = make([][]byte, 1000000) },
		"a million bytes":              func(s *impl.Server) { s.Log[1] = make([]byte, 1000000) },
		"a million records":            func(s *impl.Server) { s.State.Directory.Records = make([]impl.Record, 1000000) },
		"a million heads":              func(s *impl.Server) { s.State.Heads = make([]impl.Head, 1000000) },
		"nothing in Past":              func(s *impl.Server) { s.State.Past = nil },
		"a label of a million bytes":   func(s *impl.Server) { s.State.Directory.Records[0].Label = long },
		"no state":                     func(s *impl.Server) { s.State = impl.State{} },
		"no log":                       func(s *impl.Server) { s.Log = nil },
		"a cursor far from all bounds": func(s *impl.Server) { s.State.Cursor = 1 << 62 },
	} {
		bad := turnedServer(s, turn)
		code := serverCode(bad)
		for _, line := range []string{"", "phase", "wink", "close", "check bob", long} {
			if !noScript(impl.StepScript(bad, line), code) || !noScript(impl.RunScript(bad, line), code) || code == impl.OK {
				t.Errorf("%s: a code that is not %d", name, code)
			}
		}
	}
}
