package impl

import "strings"

const OK = 0
const ErrForm = 1
const ErrMany = 2
const ErrRange = 3
const ErrNone = 4
const ErrText = 5
const ErrTaken = 6
const ErrVersion = 7
const ErrOwner = 8
const ErrProof = 9
const ErrState = 10
const ErrFull = 11
const MaxLabel = 12
const MaxRune = 1114111

type IntResult struct {
	Code  int64
	Value int64
}
type IntsResult struct {
	Code int64
	List []int64
}
type BytesResult struct {
	Code  int64
	Bytes []byte
}
type TextResult struct {
	Code int64
	Text string
}
type RuneResult struct {
	Code int64
	Rune int64
	Size int64
}

const maxTextBytes = 200
const maxTextRunes = 50
const replacementRune = 65533
const replacementText = "\xef\xbf\xbd"

// By how many bytes the UTF-8 of a code point has (nothing has 0).
var leads = [5]int64{0, 0, 192, 224, 240}
var sizeEnds = [5]int64{0, 128, 2048, 65536, MaxRune + 1}

func RuneAt(text string, at int64) RuneResult {
	if at < 0 || at >= int64(len(text)) {
		return RuneResult{Code: ErrRange}
	}
	rest := text[at:]
	for _, r := range rest {
		if isWritten(rest, r) {
			return RuneResult{Rune: int64(r), Size: SizeOf(int64(r)).Value}
		}
		break
	}
	return RuneResult{Code: ErrText}
}

// A range tells the replacement code point of bytes that begin no code point,
// as well as of its own UTF-8; only the latter is one.
func isWritten(rest string, r rune) bool {
	return r != replacementRune || strings.HasPrefix(rest, replacementText)
}

func RunesOf(text string) IntsResult {
	if len(text) > maxTextBytes {
		return IntsResult{Code: ErrMany}
	}
	var list []int64
	for at, r := range text {
		if !isWritten(text[at:], r) {
			return IntsResult{Code: ErrText}
		}
		list = append(list, int64(r))
	}
	return IntsResult{List: list}
}

func TextOf(runes []int64) TextResult {
	if len(runes) > maxTextRunes {
		return TextResult{Code: ErrMany}
	}
	var out []byte
	for _, r := range runes {
		size := SizeOf(r)
		if size.Code != OK {
			return TextResult{Code: size.Code}
		}
		out = appendRune(out, r, size.Value)
	}
	return TextResult{Text: string(out)}
}

func appendRune(out []byte, r int64, size int64) []byte {
	low := 6 * (size - 1)
	out = append(out, byte(leads[size]|r>>low))
	for low > 0 {
		low -= 6
		out = append(out, byte(128|r>>low&63))
	}
	return out
}

func LabelFault(text string) int64 {
	if text == "" {
		return ErrForm
	}
	if len(text) > MaxLabel {
		return ErrMany
	}
	runes := RunesOf(text)
	if runes.Code != OK {
		return runes.Code
	}
	for _, r := range runes.List {
		if r < 33 || r >= 127 && r <= 160 {
			return ErrText
		}
	}
	return OK
}

func FoldLabel(text string) TextResult {
	fault := LabelFault(text)
	if fault != OK {
		return TextResult{Code: fault}
	}
	// Bytes will do: in UTF-8 those of A to Z are never part of another code point.
	out := []byte(text)
	for at, b := range out {
		if b >= 'A' && b <= 'Z' {
			out[at] = b - 'A' + 'a'
		}
	}
	return TextResult{Text: string(out)}
}

func SizeOf(r int64) IntResult {
	if r < 0 || r > MaxRune || r >= 55296 && r <= 57343 {
		return IntResult{Code: ErrRange}
	}
	size := int64(1)
	for r >= sizeEnds[size] {
		size++
	}
	return IntResult{Value: size}
}

func CountRunes(text string) IntResult {
	runes := RunesOf(text)
	if runes.Code != OK {
		return IntResult{Code: runes.Code}
	}
	return IntResult{Value: int64(len(runes.List))}
}
