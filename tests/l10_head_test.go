package tests

import (
	"bytes"
	"fmt"
	"math"
	"slices"
	"testing"

	"loop.example/g00602/impl"
)

// headCode, headPacked, headRead, mayFollowBy, chainCode and headForBy say over again, in the
// document's words, what chapter 10 asks; what may follow is worked out from the moves of chapter 11.
func headCode(h impl.Head) int64 {
	for _, sum := range []int64{h.Old, h.New, h.Prev} {
		if sum <= -1 || sum >= 65521 {
			return impl.ErrRange
		}
	}
	if h.Epoch <= 0 || h.Epoch >= 11 || h.Phase <= 0 || h.Phase >= 6 {
		return impl.ErrRange
	}
	switch h.Phase {
	case impl.PhaseCutOver:
		if h.Old != 0 {
			return impl.ErrForm
		}
	case impl.PhaseIdle, impl.PhaseCopying, impl.PhaseBack:
		if h.New != 0 {
			return impl.ErrForm
		}
	}
	return impl.OK
}

func headPacked(h impl.Head) []byte {
	return tagged(7, []int64{h.Epoch, h.Phase, h.Old, h.New, h.Prev})
}

func headRead(data []byte) impl.HeadResult {
	if len(data) != 11 || data[0] != 7 {
		return noHead
	}
	var numbers []int64
	for pair := range slices.Chunk(data[1:], 2) {
		numbers = append(numbers, int64(pair[0])*256+int64(pair[1]))
	}
	h := impl.Head{Epoch: numbers[0], Phase: numbers[1], Old: numbers[2], New: numbers[3], Prev: numbers[4]}
	if headCode(h) != impl.OK {
		return noHead
	}
	return impl.HeadResult{Head: h}
}

var noHead = impl.HeadResult{Code: impl.ErrText}

// theMoves: from which phase each move of chapter 11 leads to which one.
var theMoves = [][2]int64{
	{impl.PhaseIdle, impl.PhaseCopying}, {impl.PhaseBack, impl.PhaseCopying}, {impl.PhaseCopying, impl.PhaseDual},
	{impl.PhaseCopying, impl.PhaseBack}, {impl.PhaseDual, impl.PhaseBack}, {impl.PhaseDual, impl.PhaseCutOver},
}

func mayFollowBy(a int64, b int64) bool {
	if min(a, b) <= 0 || max(a, b) >= 6 {
		return false
	}
	reached := map[int64]bool{a: true}
	for range 5 {
		for _, move := range theMoves {
			if reached[move[0]] {
				reached[move[1]] = true
			}
		}
	}
	return reached[b]
}

func chainCode(list []impl.Head) int64 {
	if len(list) >= 11 {
		return impl.ErrMany
	}
	for at, h := range list {
		prev, phase := int64(0), int64(impl.PhaseIdle)
		if at > 0 {
			prev, phase = sumBack(headPacked(list[at-1])), list[at-1].Phase
		}
		code := headCode(h)
		switch {
		case code != impl.OK:
			return code
		case h.Epoch-1 != int64(at):
			return impl.ErrForm
		case h.Prev != prev:
			return impl.ErrProof
		case !mayFollowBy(phase, h.Phase):
			return impl.ErrState
		}
	}
	return impl.OK
}

func oldRootBy(list []impl.Slot) int64 {
	return oldLevels(list)[8][0]
}

func headForBy(d impl.Directory, epoch int64, phase int64, prev int64) impl.HeadResult {
	if code := directoryCode(d); code != impl.OK {
		return impl.HeadResult{Code: code}
	}
	if epoch <= 0 || epoch >= 11 || phase <= 0 || phase >= 6 || prev <= -1 || prev >= 65521 {
		return impl.HeadResult{Code: impl.ErrRange}
	}
	h := impl.Head{Epoch: epoch, Phase: phase, Prev: prev}
	switch phase {
	case impl.PhaseIdle, impl.PhaseCopying, impl.PhaseBack:
		h.Old = oldRootBy(slotsBy(d))
	case impl.PhaseDual:
		h.Old, h.New = oldRootBy(slotsBy(d)), newRootBy(slotsBy(d))
	case impl.PhaseCutOver:
		h.New = newRootBy(slotsBy(d))
	}
	return impl.HeadResult{Head: h}
}

var allPhases = []int64{impl.PhaseIdle, impl.PhaseCopying, impl.PhaseDual, impl.PhaseCutOver, impl.PhaseBack}

var noEpochs = []int64{math.MinInt64, math.MinInt64 + 1, -4294967295, -65535, -256, -10, -1, 0, 11, 12, 256, 257, 266, 65520, 65521, 65536, 65537, 4294967296, 4294967297, math.MaxInt64}

var noPhases = []int64{math.MinInt64, math.MinInt64 + 3, -4294967293, -65533, -253, -5, -3, -1, 0, 6, 7, 10, 256, 257, 259, 260, 65520, 65521, 65537, 65540, 4294967299, math.MaxInt64}

// seeHead: its fault, its bytes and its sum; and P11, where it has no fault.
func seeHead(t *testing.T, h impl.Head) {
	t.Helper()
	code := headCode(h)
	if got := impl.HeadFault(h); got != code {
		t.Fatalf("HeadFault(%+v) = %d, not %d", h, got, code)
	}
	packed, sum := impl.PackHead(h), impl.HeadSum(h)
	if code != impl.OK {
		if !noBytes(packed, code) || sum != (impl.IntResult{Code: code}) {
			t.Fatalf("%+v: PackHead = %#v, HeadSum = %#v, not code %d", h, packed, sum, code)
		}
		return
	}
	want := headPacked(h)
	if !sameBytes(packed, want) {
		t.Fatalf("PackHead(%+v) = %#v, not %v", h, packed, want)
	}
	if sum != (impl.IntResult{Value: sumBack(want)}) || sum != impl.SumOf(packed.Bytes) {
		t.Fatalf("HeadSum(%+v) = %#v, not %d", h, sum, sumBack(want))
	}
	if got := impl.ReadHead(packed.Bytes); got != (impl.HeadResult{Head: h}) {
		t.Fatalf("ReadHead(%v) = %#v, not %+v", packed.Bytes, got, h)
	}
}

// seeHeadBytes: what is read is what the words ask, and what is read is packed to the same bytes again.
func seeHeadBytes(t *testing.T, data []byte) impl.HeadResult {
	t.Helper()
	got := impl.ReadHead(data)
	if want := headRead(data); got != want {
		t.Fatalf("ReadHead(%v) = %#v, not %#v", data, got, want)
	}
	if got.Code == impl.OK && !sameBytes(impl.PackHead(got.Head), data) {
		t.Fatalf("ReadHead(%v) = %#v, of other bytes", data, got)
	}
	return got
}

// seeChain: its fault; and P11, where it has none: each beginning of it is a chain.
func seeChain(t *testing.T, list []impl.Head) int64 {
	t.Helper()
	code := chainCode(list)
	if got := impl.ChainFault(list); got != code {
		t.Fatalf("ChainFault(%+v) = %d, not %d", list, got, code)
	}
	for n := range list {
		got := impl.ChainFault(list[:n])
		if got != chainCode(list[:n]) || code == impl.OK && got != impl.OK {
			t.Fatalf("ChainFault of the first %d of %+v = %d, not %d", n, list, got, chainCode(list[:n]))
		}
	}
	return code
}

// seeHeadFor: what is answered is what the words ask; and P11: it has the roots of its phase alone, those of the directory.
func seeHeadFor(t *testing.T, d impl.Directory, epoch int64, phase int64, prev int64) impl.HeadResult {
	t.Helper()
	got, want := impl.HeadFor(d, epoch, phase, prev), headForBy(d, epoch, phase, prev)
	if got != want {
		t.Fatalf("HeadFor(%v, %d, %d, %d) = %#v, not %#v", d, epoch, phase, prev, got, want)
	}
	if got.Code != impl.OK {
		return got
	}
	slots := impl.SlotsOf(d).Slots
	has := impl.Head{Epoch: epoch, Phase: phase, Prev: prev}
	if phase != impl.PhaseCutOver {
		has.Old = impl.OldRoot(slots).Value
	}
	if phase == impl.PhaseDual || phase == impl.PhaseCutOver {
		has.New = impl.NewRoot(slots).Value
	}
	if got.Head != has {
		t.Fatalf("HeadFor(%v, %d, %d, %d) = %#v, not %+v", d, epoch, phase, prev, got, has)
	}
	seeHead(t, got.Head)
	return got
}

// rooted: a head of such a phase, with roots where it has them.
func rooted(epoch int64, phase int64, prev int64) impl.Head {
	h := impl.Head{Epoch: epoch, Phase: phase, Prev: prev}
	if phase != impl.PhaseCutOver {
		h.Old = 1000*epoch + phase
	}
	if phase == impl.PhaseDual || phase == impl.PhaseCutOver {
		h.New = 65520 - 100*epoch - phase
	}
	return h
}

// chainOf: heads of these phases, each one bound to the one ahead, whether it may follow or not.
func chainOf(phases ...int64) []impl.Head {
	var list []impl.Head
	prev := int64(0)
	for at, phase := range phases {
		h := rooted(int64(at)+1, phase, prev)
		list = append(list, h)
		prev = sumBack(headPacked(h))
	}
	return list
}

// boundAnew: the heads behind that place are bound to what is ahead of them by now.
func boundAnew(list []impl.Head, at int) []impl.Head {
	out := slices.Clone(list)
	for n := at + 1; n < len(out); n++ {
		out[n].Prev = sumBack(headPacked(out[n-1]))
	}
	return out
}

// turnedAt: a copy, of which the head at that place is another one.
func turnedAt(list []impl.Head, at int, turn func(h *impl.Head)) []impl.Head {
	out := slices.Clone(list)
	turn(&out[at])
	return out
}

// longChains: of MaxEpochs heads, that lead from phase to phase.
func longChains() [][]impl.Head {
	return [][]impl.Head{
		chainOf(1, 1, 1, 1, 1, 1, 1, 1, 1, 1),
		chainOf(1, 1, 2, 2, 3, 3, 4, 4, 4, 4),
		chainOf(1, 2, 3, 5, 2, 5, 2, 3, 4, 4),
		chainOf(4, 4, 4, 4, 4, 4, 4, 4, 4, 4),
		chainOf(5, 3, 2, 5, 5, 3, 3, 2, 2, 4),
		chainOf(3, 3, 3, 3, 3, 3, 3, 3, 3, 5),
		chainOf(2, 2, 2, 2, 2, 2, 2, 2, 2, 2),
		chainOf(1, 5, 5, 5, 5, 5, 5, 5, 5, 4),
	}
}

func TestHeadConstants(t *testing.T) {
	if impl.PhaseIdle != 1 || impl.PhaseCopying != 2 || impl.PhaseDual != 3 || impl.PhaseCutOver != 4 || impl.PhaseBack != 5 || impl.MaxEpochs != 10 {
		t.Error("the constants of chapter 10")
	}
}

func TestHeadExamples(t *testing.T) {
	heads := []struct {
		head impl.Head
		data []byte
		sum  int64
	}{
		{impl.Head{Epoch: 1, Phase: impl.PhaseIdle}, []byte{7, 0, 1, 0, 1, 0, 0, 0, 0, 0, 0}, 24817},
		{impl.Head{Epoch: 1, Phase: impl.PhaseDual, Old: 258, New: 3}, []byte{7, 0, 1, 0, 3, 1, 2, 0, 3, 0, 0}, 7734},
		{impl.Head{Epoch: 10, Phase: impl.PhaseCutOver, New: 65520, Prev: 65520}, []byte{7, 0, 10, 0, 4, 0, 0, 255, 240, 255, 240}, 32481},
		{impl.Head{Epoch: 9, Phase: impl.PhaseBack, Old: 65520, Prev: 256}, []byte{7, 0, 9, 0, 5, 255, 240, 0, 0, 1, 0}, 15359},
		{impl.Head{Epoch: 2, Phase: impl.PhaseCopying, Old: 255, Prev: 7734}, []byte{7, 0, 2, 0, 2, 0, 255, 0, 0, 30, 54}, 10820},
	}
	for _, x := range heads {
		if got := impl.HeadFault(x.head); got != impl.OK {
			t.Errorf("HeadFault(%+v) = %d", x.head, got)
		}
		if got := impl.PackHead(x.head); !sameBytes(got, x.data) {
			t.Errorf("PackHead(%+v) = %#v, not %v", x.head, got, x.data)
		}
		if got := impl.HeadSum(x.head); got != (impl.IntResult{Value: x.sum}) {
			t.Errorf("HeadSum(%+v) = %#v, not %d", x.head, got, x.sum)
		}
		if got := impl.ReadHead(x.data); got != (impl.HeadResult{Head: x.head}) {
			t.Errorf("ReadHead(%v) = %#v, not %+v", x.data, got, x.head)
		}
	}
	chain := []impl.Head{heads[1].head, heads[4].head}
	if got := impl.ChainFault(chain); got != impl.OK {
		t.Errorf("ChainFault(%+v) = %d", chain, got)
	}
}

// Each number alone at each of its edges, of a head of each phase that is else without a fault.
func TestHeadFaultBounds(t *testing.T) {
	for _, phase := range allPhases {
		for epoch := int64(1); epoch <= 10; epoch++ {
			if h := rooted(epoch, phase, 65520); impl.HeadFault(h) != impl.OK {
				t.Errorf("HeadFault(%+v) = %d", h, impl.HeadFault(h))
			}
		}
		good := rooted(3, phase, 5)
		for _, n := range noEpochs {
			seeTurnedHead(t, good, impl.ErrRange, func(h *impl.Head) { h.Epoch = n })
		}
		for _, n := range noPhases {
			seeTurnedHead(t, good, impl.ErrRange, func(h *impl.Head) { h.Phase = n })
		}
		for _, n := range noSums {
			seeTurnedHead(t, good, impl.ErrRange, func(h *impl.Head) { h.Old = n })
			seeTurnedHead(t, good, impl.ErrRange, func(h *impl.Head) { h.New = n })
			seeTurnedHead(t, good, impl.ErrRange, func(h *impl.Head) { h.Prev = n })
		}
		for _, n := range sumEdges {
			hasOld, hasNew := phase != impl.PhaseCutOver, phase == impl.PhaseDual || phase == impl.PhaseCutOver
			seeTurnedHead(t, good, impl.OK, func(h *impl.Head) { h.Prev = n })
			seeTurnedHead(t, good, formUnless(hasOld || n == 0), func(h *impl.Head) { h.Old = n })
			seeTurnedHead(t, good, formUnless(hasNew || n == 0), func(h *impl.Head) { h.New = n })
		}
	}
}

func formUnless(so bool) int64 {
	if so {
		return impl.OK
	}
	return impl.ErrForm
}

func seeTurnedHead(t *testing.T, h impl.Head, code int64, turn func(h *impl.Head)) {
	t.Helper()
	turn(&h)
	if headCode(h) != code {
		t.Fatalf("%+v: the words said over again tell %d, not %d", h, headCode(h), code)
	}
	seeHead(t, h)
}

func TestHeadFaultOrderOfCodes(t *testing.T) {
	heads := map[string]struct {
		head impl.Head
		code int64
	}{
		"nothing":                             {impl.Head{}, impl.ErrRange},
		"the epoch 0, New in PhaseIdle":       {impl.Head{Phase: impl.PhaseIdle, New: 1}, impl.ErrRange},
		"the epoch 11, Old in PhaseCutOver":   {impl.Head{Epoch: 11, Phase: impl.PhaseCutOver, Old: 1}, impl.ErrRange},
		"the phase 0, both roots":             {impl.Head{Epoch: 1, Old: 1, New: 1}, impl.ErrRange},
		"the phase 6, both roots":             {impl.Head{Epoch: 1, Phase: 6, Old: 1, New: 1}, impl.ErrRange},
		"New -1 in PhaseIdle":                 {impl.Head{Epoch: 1, Phase: impl.PhaseIdle, New: -1}, impl.ErrRange},
		"New 65521 in PhaseCopying":           {impl.Head{Epoch: 1, Phase: impl.PhaseCopying, New: 65521}, impl.ErrRange},
		"New 65521 in PhaseBack":              {impl.Head{Epoch: 1, Phase: impl.PhaseBack, New: 65521}, impl.ErrRange},
		"Old -1 in PhaseCutOver":              {impl.Head{Epoch: 1, Phase: impl.PhaseCutOver, Old: -1}, impl.ErrRange},
		"Old 65521 in PhaseCutOver":           {impl.Head{Epoch: 1, Phase: impl.PhaseCutOver, Old: 65521}, impl.ErrRange},
		"Old in PhaseCutOver, New -1":         {impl.Head{Epoch: 1, Phase: impl.PhaseCutOver, Old: 1, New: -1}, impl.ErrRange},
		"New in PhaseIdle, Old 65521":         {impl.Head{Epoch: 1, Phase: impl.PhaseIdle, Old: 65521, New: 1}, impl.ErrRange},
		"New in PhaseBack, Prev 65521":        {impl.Head{Epoch: 1, Phase: impl.PhaseBack, New: 1, Prev: 65521}, impl.ErrRange},
		"Old in PhaseCutOver, Prev -1":        {impl.Head{Epoch: 1, Phase: impl.PhaseCutOver, Old: 1, Prev: -1}, impl.ErrRange},
		"New in PhaseIdle":                    {impl.Head{Epoch: 1, Phase: impl.PhaseIdle, Old: 5, New: 1}, impl.ErrForm},
		"New in PhaseCopying":                 {impl.Head{Epoch: 1, Phase: impl.PhaseCopying, Old: 5, New: 65520}, impl.ErrForm},
		"New in PhaseBack":                    {impl.Head{Epoch: 1, Phase: impl.PhaseBack, New: 1}, impl.ErrForm},
		"Old in PhaseCutOver":                 {impl.Head{Epoch: 1, Phase: impl.PhaseCutOver, Old: 1, New: 1}, impl.ErrForm},
		"Old alone in PhaseCutOver":           {impl.Head{Epoch: 1, Phase: impl.PhaseCutOver, Old: 65520}, impl.ErrForm},
		"no roots in PhaseIdle":               {impl.Head{Epoch: 1, Phase: impl.PhaseIdle}, impl.OK},
		"no roots in PhaseDual":               {impl.Head{Epoch: 1, Phase: impl.PhaseDual}, impl.OK},
		"Old alone in PhaseDual":              {impl.Head{Epoch: 1, Phase: impl.PhaseDual, Old: 1}, impl.OK},
		"New alone in PhaseDual":              {impl.Head{Epoch: 1, Phase: impl.PhaseDual, New: 1}, impl.OK},
		"no roots in PhaseCutOver":            {impl.Head{Epoch: 1, Phase: impl.PhaseCutOver}, impl.OK},
		"a Prev of epoch 1":                   {impl.Head{Epoch: 1, Phase: impl.PhaseIdle, Prev: 9}, impl.OK},
		"no Prev of epoch 10, in PhaseBack":   {impl.Head{Epoch: 10, Phase: impl.PhaseBack}, impl.OK},
		"both roots of 65520, in PhaseDual":   {impl.Head{Epoch: 10, Phase: impl.PhaseDual, Old: 65520, New: 65520, Prev: 65520}, impl.OK},
		"New of 65520 alone, in PhaseCutOver": {impl.Head{Epoch: 10, Phase: impl.PhaseCutOver, New: 65520}, impl.OK},
	}
	for name, x := range heads {
		if got := impl.HeadFault(x.head); got != x.code {
			t.Errorf("%s: HeadFault(%+v) = %d, not %d", name, x.head, got, x.code)
		}
		seeHead(t, x.head)
	}
}

// Every head of some numbers, so that each fault stands beside each other one; and P11 of those that have none.
func TestP11HeadEdges(t *testing.T) {
	codes := map[int64]int{}
	sums := []int64{math.MinInt64, -1, 0, 1, 256, 65520, 65521, math.MaxInt64}
	for _, epoch := range []int64{math.MinInt64, -1, 0, 1, 2, 9, 10, 11, 65537, math.MaxInt64} {
		for _, phase := range []int64{math.MinInt64, -1, 0, 1, 2, 3, 4, 5, 6, 260, math.MaxInt64} {
			for _, old := range sums {
				for _, root := range sums {
					for _, prev := range sums {
						h := impl.Head{Epoch: epoch, Phase: phase, Old: old, New: root, Prev: prev}
						seeHead(t, h)
						codes[headCode(h)]++
					}
				}
			}
		}
	}
	if codes[impl.OK] < 500 || codes[impl.ErrForm] < 500 || codes[impl.ErrRange] < 500 || len(codes) != 3 {
		t.Errorf("codes seen: %v", codes)
	}
}

// P11: heads of all epochs and phases are read back, whatever sums they have where they may.
func TestP11ReadBack(t *testing.T) {
	read := 0
	for epoch := int64(1); epoch <= 10; epoch++ {
		for _, phase := range allPhases {
			for _, a := range sumEdges {
				for _, b := range sumEdges {
					h := impl.Head{Epoch: epoch, Phase: phase, Old: a, New: b, Prev: 65520 - a}
					if phase == impl.PhaseCutOver {
						h.Old = 0
					} else if phase != impl.PhaseDual {
						h.New = 0
					}
					if impl.HeadFault(h) != impl.OK || impl.ReadHead(impl.PackHead(h).Bytes) != (impl.HeadResult{Head: h}) {
						t.Fatalf("%+v is read back as %#v", h, impl.ReadHead(impl.PackHead(h).Bytes))
					}
					seeHead(t, h)
					read++
				}
			}
		}
	}
	if read != 10*5*15*15 {
		t.Errorf("%d heads read alone", read)
	}
}

// A byte of a head's bytes turned to each other one: another head, or none.
func TestReadHeadTurnedBytes(t *testing.T) {
	read, refused := 0, 0
	for _, phase := range allPhases {
		for _, epoch := range []int64{1, 7, 10} {
			for _, prev := range []int64{0, 258, 65520} {
				data := headPacked(rooted(epoch, phase, prev))
				for at := range data {
					for b := range 256 {
						turned := slices.Clone(data)
						turned[at] = byte(b)
						if seeHeadBytes(t, turned).Code == impl.OK {
							read++
						} else {
							refused++
						}
					}
				}
			}
		}
	}
	if read < 1000 || refused < 1000 {
		t.Errorf("%d heads read, %d refused alone", read, refused)
	}
}

func TestReadHeadWrongBytes(t *testing.T) {
	good := headPacked(impl.Head{Epoch: 1, Phase: impl.PhaseDual, Old: 258, New: 3, Prev: 7})
	wrong := map[string][]byte{
		"nothing":                {},
		"the tag alone":          {7},
		"one byte too few":       good[:10],
		"one byte too few ahead": good[1:],
		"one number too few":     good[:9],
		"one byte too many":      append(slices.Clone(good), 0),
		"one byte ahead":         append([]byte{7}, good...),
		"one number too many":    append(slices.Clone(good), 0, 0),
		"twice":                  append(slices.Clone(good), good...),
		"a record":               packedBy(impl.Record{Label: "bobby", Version: 1}),
		"all 0":                  make([]byte, 11),
		"all 255":                bytes.Repeat([]byte{255}, 11),
		"200 bytes":              bytes.Repeat([]byte{7}, 200),
		"201 bytes":              append(slices.Clone(good), make([]byte, 190)...),
		"a million bytes":        append(slices.Clone(good), make([]byte, 1000000)...),
		"the epoch 0":            {7, 0, 0, 0, 3, 1, 2, 0, 3, 0, 7},
		"the epoch 11":           {7, 0, 11, 0, 3, 1, 2, 0, 3, 0, 7},
		"the epoch 257":          {7, 1, 1, 0, 3, 1, 2, 0, 3, 0, 7},
		"the phase 0":            {7, 0, 1, 0, 0, 1, 2, 0, 3, 0, 7},
		"the phase 6":            {7, 0, 1, 0, 6, 1, 2, 0, 3, 0, 7},
		"the phase 259":          {7, 0, 1, 1, 3, 1, 2, 0, 3, 0, 7},
		"Old 65521":              {7, 0, 1, 0, 3, 255, 241, 0, 3, 0, 7},
		"New 65521":              {7, 0, 1, 0, 3, 1, 2, 255, 241, 0, 7},
		"Prev 65521":             {7, 0, 1, 0, 3, 1, 2, 0, 3, 255, 241},
		"Prev 65535":             {7, 0, 1, 0, 3, 1, 2, 0, 3, 255, 255},
		"New in PhaseIdle":       {7, 0, 1, 0, 1, 1, 2, 0, 3, 0, 7},
		"New in PhaseCopying":    {7, 0, 1, 0, 2, 1, 2, 1, 0, 0, 7},
		"Old in PhaseCutOver":    {7, 0, 1, 0, 4, 1, 2, 0, 3, 0, 7},
		"New in PhaseBack":       {7, 0, 1, 0, 5, 1, 2, 0, 3, 0, 7},
	}
	for name, data := range wrong {
		if got := impl.ReadHead(data); got != noHead {
			t.Errorf("%s: ReadHead = %#v", name, got)
		}
		seeHeadBytes(t, data)
	}
	for tag := range 256 {
		turned := slices.Clone(good)
		turned[0] = byte(tag)
		if got := impl.ReadHead(turned); (got.Code == impl.OK) != (tag == 7) || tag != 7 && got != noHead {
			t.Errorf("the tag %d: ReadHead = %#v", tag, got)
		}
	}
	for _, h := range []impl.Head{rooted(1, 1, 0), rooted(10, 3, 65520), rooted(5, 4, 9)} {
		data := slices.Concat(headPacked(h), headPacked(h), headPacked(h))
		for n := range len(data) + 1 {
			seeHeadBytes(t, data[:n])
			seeHeadBytes(t, data[n:])
			if got := impl.ReadHead(data[:n]); (got.Code == impl.OK) != (n == 11) {
				t.Errorf("%d bytes: ReadHead = %#v", n, got)
			}
		}
	}
}

func TestMayFollow(t *testing.T) {
	follows := map[[2]int64]bool{}
	for _, b := range allPhases {
		follows[[2]int64{impl.PhaseIdle, b}] = true
		for _, a := range []int64{impl.PhaseCopying, impl.PhaseDual, impl.PhaseBack} {
			follows[[2]int64{a, b}] = b != impl.PhaseIdle
		}
	}
	follows[[2]int64{impl.PhaseCutOver, impl.PhaseCutOver}] = true
	numbers := slices.Concat(allPhases, noPhases, []int64{2147483649, -4294967292, 4294967300})
	seen := 0
	for _, a := range numbers {
		for _, b := range numbers {
			if got := impl.MayFollow(a, b); got != follows[[2]int64{a, b}] || got != mayFollowBy(a, b) {
				t.Errorf("MayFollow(%d, %d) = %v", a, b, got)
			}
			if impl.MayFollow(a, b) {
				seen++
			}
		}
	}
	if seen != 5+4+4+4+1 {
		t.Errorf("%d pairs may follow", seen)
	}
	// What may follow what may follow may follow.
	for _, a := range allPhases {
		for _, b := range allPhases {
			for _, c := range allPhases {
				if impl.MayFollow(a, b) && impl.MayFollow(b, c) && !impl.MayFollow(a, c) {
					t.Errorf("%d, %d, %d", a, b, c)
				}
			}
		}
	}
}

// P11: heads of all phases one behind the other, up to five of them: a chain, or one of which a phase may not follow.
func TestP11AllPhases(t *testing.T) {
	codes := map[int64]int{}
	var grow func(phases []int64)
	grow = func(phases []int64) {
		list := chainOf(phases...)
		may := true
		for at := range phases {
			may = may && (at == 0 || impl.MayFollow(phases[at-1], phases[at]))
		}
		code := seeChain(t, list)
		if (code == impl.OK) != may || code != impl.OK && code != impl.ErrState {
			t.Fatalf("ChainFault of the phases %v = %d", phases, code)
		}
		codes[code]++
		if len(phases) == 5 {
			return
		}
		for _, phase := range allPhases {
			grow(append(slices.Clone(phases), phase))
		}
	}
	grow(nil)
	if codes[impl.OK] < 500 || codes[impl.ErrState] < 500 {
		t.Errorf("codes seen: %v", codes)
	}
}

// P11: chains of none to MaxEpochs heads, and not one more.
func TestP11LongChains(t *testing.T) {
	if impl.ChainFault(nil) != impl.OK || impl.ChainFault([]impl.Head{}) != impl.OK {
		t.Error("no heads are no chain")
	}
	for _, list := range longChains() {
		if len(list) != impl.MaxEpochs {
			t.Fatalf("%d heads", len(list))
		}
		for n := range len(list) + 1 {
			if got := seeChain(t, list[:n]); got != impl.OK {
				t.Errorf("ChainFault(%+v) = %d", list[:n], got)
			}
			// What is a chain from its first head on alone is none from a later one on.
			if n > 0 && n < len(list) && impl.ChainFault(list[n:]) != impl.ErrForm {
				t.Errorf("ChainFault(%+v) = %d", list[n:], impl.ChainFault(list[n:]))
			}
		}
		last := list[9]
		for _, h := range []impl.Head{rooted(11, last.Phase, sumBack(headPacked(last))), rooted(10, last.Phase, last.Prev), rooted(1, 1, 0), {}} {
			for _, more := range []int{1, 2, 90} {
				if got := impl.ChainFault(slices.Concat(list, slices.Repeat([]impl.Head{h}, more))); got != impl.ErrMany {
					t.Errorf("ChainFault of %d heads = %d", 10+more, got)
				}
			}
		}
	}
}

func TestChainFirstHead(t *testing.T) {
	for _, phase := range allPhases {
		if got := impl.ChainFault([]impl.Head{rooted(1, phase, 0)}); got != impl.OK {
			t.Errorf("the phase %d first: %d", phase, got)
		}
		for _, prev := range []int64{1, 13, 256, 65520, sumBack(headPacked(rooted(1, phase, 0)))} {
			if got := impl.ChainFault([]impl.Head{rooted(1, phase, prev)}); got != impl.ErrProof {
				t.Errorf("Prev %d first: %d", prev, got)
			}
		}
		for epoch := int64(2); epoch <= 10; epoch++ {
			if got := impl.ChainFault([]impl.Head{rooted(epoch, phase, 0)}); got != impl.ErrForm {
				t.Errorf("the epoch %d first: %d", epoch, got)
			}
		}
		for _, h := range []impl.Head{rooted(0, phase, 0), rooted(11, phase, 0), rooted(1, phase, -1), rooted(1, phase, 65521), rooted(1, 0, 0), rooted(1, 6, 0)} {
			if got := impl.ChainFault([]impl.Head{h}); got != impl.ErrRange {
				t.Errorf("ChainFault(%+v) = %d", h, got)
			}
		}
	}
}

// One fault at each place of a chain of MaxEpochs heads, those behind it bound to it or not.
func TestChainFaultPlaces(t *testing.T) {
	turns := []struct {
		turn func(h *impl.Head)
		code int64
	}{
		{func(h *impl.Head) { h.Epoch = 0 }, impl.ErrRange},
		{func(h *impl.Head) { h.Epoch = 11 }, impl.ErrRange},
		{func(h *impl.Head) { h.Phase = 0 }, impl.ErrRange},
		{func(h *impl.Head) { h.Phase = 6 }, impl.ErrRange},
		{func(h *impl.Head) { h.Old = -1 }, impl.ErrRange},
		{func(h *impl.Head) { h.New = 65521 }, impl.ErrRange},
		{func(h *impl.Head) { h.Prev = -1 }, impl.ErrRange},
		{func(h *impl.Head) { h.Prev = 65521 }, impl.ErrRange},
		{func(h *impl.Head) { h.Phase, h.Old, h.New = impl.PhaseCutOver, 1, 1 }, impl.ErrForm},
		{func(h *impl.Head) { h.Phase, h.Old, h.New = impl.PhaseBack, 1, 1 }, impl.ErrForm},
		{func(h *impl.Head) { h.Epoch = h.Epoch%10 + 1 }, impl.ErrForm},
		{func(h *impl.Head) { h.Epoch = 11 - h.Epoch }, impl.ErrForm},
		{func(h *impl.Head) { h.Prev = (h.Prev + 1) % 65521 }, impl.ErrProof},
		{func(h *impl.Head) { h.Prev = (h.Prev + 65520) % 65521 }, impl.ErrProof},
	}
	for _, list := range longChains() {
		for at := range list {
			for _, x := range turns {
				turned := turnedAt(list, at, x.turn)
				if got := impl.ChainFault(turned); got != x.code {
					t.Fatalf("ChainFault(%+v) = %d, not %d, at %d", turned, got, x.code, at)
				}
				seeChain(t, turned)
				if headCode(turned[at]) == impl.OK {
					if got := seeChain(t, boundAnew(turned, at)); got != x.code {
						t.Fatalf("bound anew: %d, not %d, at %d", got, x.code, at)
					}
				}
			}
		}
	}
}

// A head that turned, without a fault of its own, is bound to nothing behind it any more; bound anew it may be a chain.
func TestChainFaultUnbound(t *testing.T) {
	for _, list := range longChains() {
		for at := range list {
			turned := turnedAt(list, at, func(h *impl.Head) {
				if h.Phase == impl.PhaseCutOver {
					h.New++
				} else {
					h.Old++
				}
			})
			code := int64(impl.ErrProof)
			if at == 9 {
				code = impl.OK
			}
			if got := seeChain(t, turned); got != code {
				t.Errorf("%d turned: ChainFault = %d, not %d", at, got, code)
			}
			if got := seeChain(t, boundAnew(turned, at)); got != impl.OK {
				t.Errorf("%d turned, bound anew: ChainFault = %d", at, got)
			}
		}
		// One left out, one twice, two in each other's place.
		for at := range len(list) - 1 {
			if got := seeChain(t, slices.Delete(slices.Clone(list), at, at+1)); got != impl.ErrForm {
				t.Errorf("without the head at %d: ChainFault = %d", at, got)
			}
			if got := seeChain(t, slices.Insert(slices.Clone(list[:9]), at, list[at])); got != impl.ErrForm {
				t.Errorf("the head at %d twice: ChainFault = %d", at, got)
			}
			swapped := slices.Clone(list)
			swapped[at], swapped[at+1] = swapped[at+1], swapped[at]
			if got := seeChain(t, swapped); got != impl.ErrForm {
				t.Errorf("the head at %d behind the next one: ChainFault = %d", at, got)
			}
		}
	}
	// It is the sum that binds: two heads of one sum have the same ones behind them.
	one := impl.Head{Epoch: 1, Phase: impl.PhaseIdle, Old: 139}
	other := impl.Head{Epoch: 1, Phase: impl.PhaseIdle, Old: 256}
	next := rooted(2, impl.PhaseIdle, impl.HeadSum(one).Value)
	if impl.HeadSum(one) != impl.HeadSum(other) || impl.ChainFault([]impl.Head{one, next}) != impl.OK || impl.ChainFault([]impl.Head{other, next}) != impl.OK {
		t.Errorf("%+v and %+v, ahead of %+v", one, other, next)
	}
}

// A phase that may not follow, at each place of a chain, whatever stands behind it.
func TestChainFaultPhases(t *testing.T) {
	for at := 1; at < 10; at++ {
		for _, a := range allPhases {
			for _, b := range allPhases {
				var phases []int64
				for n := range 10 {
					switch {
					case n < at-1:
						phases = append(phases, impl.PhaseIdle)
					case n == at-1:
						phases = append(phases, a)
					default:
						phases = append(phases, b)
					}
				}
				code := int64(impl.ErrState)
				if a == impl.PhaseIdle || a == b || a != impl.PhaseCutOver && b != impl.PhaseIdle {
					code = impl.OK
				}
				if got := seeChain(t, chainOf(phases...)); got != code {
					t.Errorf("ChainFault of the phases %v = %d, not %d", phases, got, code)
				}
			}
		}
	}
}

// Several at once: how many there are, then head by head: its fault, its epoch, what it is bound to, its phase.
func TestChainFaultOrderOfCodes(t *testing.T) {
	list := chainOf(1, 2, 3, 4)
	sum := func(at int) int64 { return sumBack(headPacked(list[at])) }
	behind := func(n int, heads ...impl.Head) []impl.Head { return slices.Concat(list[:n], heads) }
	range1, form1 := impl.Head{Epoch: 1, Phase: 6}, impl.Head{Epoch: 1, Phase: impl.PhaseIdle, New: 1}
	idle2 := impl.Head{Epoch: 2, Phase: impl.PhaseIdle, Prev: sum(0)}
	cases := map[string]struct {
		list []impl.Head
		code int64
	}{
		"eleven of nothing":                              {make([]impl.Head, 11), impl.ErrMany},
		"eleven, the first one of New in PhaseIdle":      {append([]impl.Head{form1}, make([]impl.Head, 10)...), impl.ErrMany},
		"ten of nothing":                                 {make([]impl.Head, 10), impl.ErrRange},
		"a phase that is none, an epoch, a Prev":         {behind(2, impl.Head{Epoch: 9, Phase: 6, Prev: 1}), impl.ErrRange},
		"a root that may not be, a Prev, a phase":        {behind(2, impl.Head{Epoch: 3, Phase: impl.PhaseIdle, New: 1, Prev: 1}), impl.ErrForm},
		"a root that may not be, a phase":                {behind(2, impl.Head{Epoch: 3, Phase: impl.PhaseIdle, New: 1, Prev: sum(1)}), impl.ErrForm},
		"an epoch, a Prev, a phase":                      {behind(2, impl.Head{Epoch: 2, Phase: impl.PhaseIdle, Prev: 1}), impl.ErrForm},
		"an epoch, a phase":                              {behind(2, impl.Head{Epoch: 4, Phase: impl.PhaseIdle, Prev: sum(1)}), impl.ErrForm},
		"an epoch, a Prev":                               {behind(2, impl.Head{Epoch: 1, Phase: impl.PhaseDual, Prev: 0}), impl.ErrForm},
		"a Prev, a phase":                                {behind(2, impl.Head{Epoch: 3, Phase: impl.PhaseIdle, Prev: 1}), impl.ErrProof},
		"a Prev that is 0":                               {behind(2, impl.Head{Epoch: 3, Phase: impl.PhaseDual}), impl.ErrProof},
		"a Prev of the one two ahead":                    {behind(2, impl.Head{Epoch: 3, Phase: impl.PhaseDual, Prev: sum(0)}), impl.ErrProof},
		"a phase":                                        {behind(2, impl.Head{Epoch: 3, Phase: impl.PhaseIdle, Prev: sum(1)}), impl.ErrState},
		"a phase, behind the cut":                        {behind(4, impl.Head{Epoch: 5, Phase: impl.PhaseDual, Prev: sum(3)}), impl.ErrState},
		"a phase, back behind the cut":                   {behind(4, impl.Head{Epoch: 5, Phase: impl.PhaseBack, Prev: sum(3)}), impl.ErrState},
		"a phase, then one that is none":                 {behind(2, impl.Head{Epoch: 3, Phase: impl.PhaseIdle, Prev: sum(1)}, range1), impl.ErrState},
		"a phase, then a root that may not be":           {behind(2, impl.Head{Epoch: 3, Phase: impl.PhaseIdle, Prev: sum(1)}, form1), impl.ErrState},
		"a Prev, then a phase that is none":              {behind(1, impl.Head{Epoch: 2, Phase: impl.PhaseIdle, Prev: 1}, range1), impl.ErrProof},
		"an epoch, then a phase that is none":            {behind(1, impl.Head{Epoch: 3, Phase: impl.PhaseIdle, Prev: sum(0)}, range1), impl.ErrForm},
		"a root that may not be, then a phase of none":   {[]impl.Head{form1, range1}, impl.ErrForm},
		"a phase of none, then a root that may not be":   {[]impl.Head{range1, form1}, impl.ErrRange},
		"a Prev of the first one, then a phase of none":  {[]impl.Head{rooted(1, 1, 5), range1}, impl.ErrProof},
		"the epoch of the first one, then a Prev":        {[]impl.Head{rooted(2, 1, 0), rooted(2, 1, 5)}, impl.ErrForm},
		"the epochs 0, 1":                                {[]impl.Head{rooted(0, 1, 0), rooted(1, 1, 0)}, impl.ErrRange},
		"the epochs 1, 1":                                {[]impl.Head{list[0], list[0]}, impl.ErrForm},
		"the epochs 1, 3":                                {behind(1, rooted(3, 1, sum(0))), impl.ErrForm},
		"none that fits, behind a chain":                 {behind(4, impl.Head{}), impl.ErrRange},
		"a phase of the second one, a Prev of the third": {behind(1, idle2, rooted(3, 1, 7)), impl.ErrProof},
		"idle, and idle again":                           {behind(1, idle2), impl.OK},
		"idle, idle, the cut":                            {behind(1, idle2, rooted(3, impl.PhaseCutOver, impl.HeadSum(idle2).Value)), impl.OK},
		"a chain":                                        {list, impl.OK},
	}
	for name, x := range cases {
		if got := impl.ChainFault(x.list); got != x.code {
			t.Errorf("%s: ChainFault = %d, not %d", name, got, x.code)
		}
		seeChain(t, x.list)
	}
}

// Every two and three of some heads, bound or not, so that each code stands beside each other one, in each order.
func TestChainFaultEdges(t *testing.T) {
	codes := map[int64]int{}
	first := []impl.Head{rooted(1, 1, 0), rooted(1, 3, 0), rooted(1, 4, 0), rooted(1, 1, 5), rooted(2, 1, 0), {}, {Epoch: 1, Phase: 4, Old: 1}}
	for _, a := range first {
		codes[seeChain(t, []impl.Head{a})]++
		for _, b := range someNext(a, 2) {
			codes[seeChain(t, []impl.Head{a, b})]++
			for _, c := range someNext(b, 3) {
				codes[seeChain(t, []impl.Head{a, b, c})]++
			}
		}
	}
	for _, code := range []int64{impl.OK, impl.ErrRange, impl.ErrForm, impl.ErrProof, impl.ErrState} {
		if codes[code] < 10 {
			t.Errorf("code %d seen %d times alone: %v", code, codes[code], codes)
		}
	}
}

// someNext: what may stand behind a head, or may not.
func someNext(ahead impl.Head, epoch int64) []impl.Head {
	var out []impl.Head
	bound := sumBack(headPacked(ahead))
	for _, phase := range []int64{0, 1, 3, 4, 5, 6} {
		for _, prev := range []int64{-1, 0, bound, (bound + 1) % 65521} {
			for _, at := range []int64{epoch - 1, epoch, epoch + 1, 11} {
				out = append(out, rooted(at, phase, prev), impl.Head{Epoch: at, Phase: phase, Old: 1, New: 1, Prev: prev})
			}
		}
	}
	return out
}

func TestHeadForExamples(t *testing.T) {
	none, bob := impl.Directory{}, impl.Directory{Records: []impl.Record{{Label: "bob", Version: 1, Owner: 60227, Pin: 5}}}
	heads := []struct {
		d    impl.Directory
		head impl.Head
	}{
		{none, impl.Head{Epoch: 1, Phase: impl.PhaseIdle, Old: 35702}},
		{none, impl.Head{Epoch: 2, Phase: impl.PhaseDual, Old: 35702, New: 1817, Prev: 9}},
		{none, impl.Head{Epoch: 3, Phase: impl.PhaseCutOver, New: 1817, Prev: 65520}},
		{bob, impl.Head{Epoch: 10, Phase: impl.PhaseCopying, Old: 36943, Prev: 1}},
		{bob, impl.Head{Epoch: 1, Phase: impl.PhaseDual, Old: 36943, New: 21232}},
		{bob, impl.Head{Epoch: 7, Phase: impl.PhaseCutOver, New: 21232, Prev: 3}},
		{bob, impl.Head{Epoch: 8, Phase: impl.PhaseBack, Old: 36943, Prev: 65520}},
	}
	for _, x := range heads {
		if got := impl.HeadFor(x.d, x.head.Epoch, x.head.Phase, x.head.Prev); got != (impl.HeadResult{Head: x.head}) {
			t.Errorf("HeadFor(%v, %d, %d, %d) = %#v, not %+v", x.d, x.head.Epoch, x.head.Phase, x.head.Prev, got, x.head)
		}
	}
}

// P11: of directories of none to MaxSlots records, in each phase, the roots of that phase alone.
func TestP11HeadFor(t *testing.T) {
	for _, d := range someDirectories() {
		for _, phase := range allPhases {
			for _, epoch := range []int64{1, 2, 9, 10} {
				for _, prev := range []int64{0, 1, 65520} {
					if seeHeadFor(t, d, epoch, phase, prev).Code != impl.OK {
						t.Fatalf("HeadFor(%v, %d, %d, %d) = %#v", d, epoch, phase, prev, impl.HeadFor(d, epoch, phase, prev))
					}
				}
			}
		}
	}
}

// Another record, another pin: another head, in each phase.
func TestP11HeadForTurns(t *testing.T) {
	for _, d := range []impl.Directory{directoryAt(3), spread(3, 3, 60), spread(12, 3, 22)} {
		for at, r := range d.Records {
			r.Pin = (r.Pin + 1) % 65521
			for _, phase := range allPhases {
				if a, b := seeHeadFor(t, d, 1, phase, 0), seeHeadFor(t, with(d, at, r), 1, phase, 0); a == b {
					t.Errorf("%v, and another pin at %d, in the phase %d: %#v", d, at, phase, a)
				}
			}
		}
	}
}

func TestHeadForCodes(t *testing.T) {
	good := []impl.Directory{{}, directoryAt(3), spread(12, 3, 22)}
	for _, d := range good {
		for _, phase := range allPhases {
			for _, n := range noEpochs {
				if got := seeHeadFor(t, d, n, phase, 0); got != (impl.HeadResult{Code: impl.ErrRange}) {
					t.Errorf("the epoch %d: HeadFor = %#v", n, got)
				}
			}
			for _, n := range noSums {
				if got := seeHeadFor(t, d, 1, phase, n); got != (impl.HeadResult{Code: impl.ErrRange}) {
					t.Errorf("the Prev %d: HeadFor = %#v", n, got)
				}
			}
		}
		for _, n := range noPhases {
			if got := seeHeadFor(t, d, 1, n, 0); got != (impl.HeadResult{Code: impl.ErrRange}) {
				t.Errorf("the phase %d: HeadFor = %#v", n, got)
			}
		}
	}
	// The fault of the directory comes ahead of all else.
	faults := map[int64]impl.Directory{
		impl.ErrMany:  spread(13, 0, 1),
		impl.ErrForm:  directoryAt(9, 3),
		impl.ErrRange: {Records: []impl.Record{{Label: "bob"}}},
		impl.ErrText:  {Records: []impl.Record{by(3, 1, 0), {Label: "A b", Version: 1}}},
	}
	for code, d := range faults {
		for _, epoch := range []int64{-1, 0, 1, 10, 11} {
			for _, phase := range []int64{-1, 0, 1, 3, 4, 5, 6} {
				for _, prev := range []int64{-1, 0, 65520, 65521} {
					if got := seeHeadFor(t, d, epoch, phase, prev); got != (impl.HeadResult{Code: code}) {
						t.Errorf("HeadFor(%v, %d, %d, %d) = %#v, not code %d", d, epoch, phase, prev, got, code)
					}
				}
			}
		}
	}
}

func TestHeadForEdges(t *testing.T) {
	far := []int64{math.MinInt64, -1, 0, 1, 2, 3, 4, 5, 6, 10, 11, 65520, 65521, math.MaxInt64}
	for _, d := range []impl.Directory{{}, directoryAt(3, 9), directoryAt(9, 3), {Records: make([]impl.Record, 1)}} {
		for _, epoch := range far {
			for _, phase := range far {
				for _, prev := range far {
					seeHeadFor(t, d, epoch, phase, prev)
				}
			}
		}
	}
}

// P11 along a history: heads for a directory that grows and turns are a chain, from phase to phase, and are read back.
func TestP11History(t *testing.T) {
	walks := [][]int64{{1, 1, 1, 1, 1, 1, 1, 1, 1, 1}, {1, 2, 2, 3, 3, 4, 4, 4, 4, 4}, {1, 2, 5, 2, 3, 5, 2, 3, 4, 4}, {5, 5, 2, 3, 2, 5, 3, 3, 4, 4}, {4, 4, 4, 4, 4, 4, 4, 4, 4, 4}}
	for _, walk := range walks {
		var d impl.Directory
		var list []impl.Head
		var logged [][]byte
		prev := int64(0)
		for at, phase := range walk {
			key := int64(at*53%256) / 2 * 2
			d = impl.UpdateRecord(d, by(key, 1, 4), 4).Directory
			if at > 3 {
				d = impl.UpdateRecord(d, by(0, int64(at)-2, 4), 4).Directory
			}
			h := seeHeadFor(t, d, int64(at)+1, phase, prev)
			list = append(list, h.Head)
			logged = append(logged, impl.PackHead(h.Head).Bytes)
			prev = impl.HeadSum(h.Head).Value
			if got := seeChain(t, list); got != impl.OK {
				t.Fatalf("ChainFault(%+v) = %d", list, got)
			}
		}
		if len(d.Records) != 10 || d.Records[0].Version != 7 {
			t.Fatalf("the directory is %v", d)
		}
		for at, data := range logged {
			if got := impl.ReadHead(data); got != (impl.HeadResult{Head: list[at]}) {
				t.Errorf("ReadHead(%v) = %#v, not %+v", data, got, list[at])
			}
		}
		if seeHeadFor(t, d, 11, 4, prev) != (impl.HeadResult{Code: impl.ErrRange}) {
			t.Error("a head of the epoch 11")
		}
	}
}

// headAsked: one call of each function of the chapter.
type headAsked struct {
	head impl.Head
	data []byte
	list []impl.Head
	d    impl.Directory
}

func (x headAsked) ask() string {
	h := x.head
	return fmt.Sprint(impl.HeadFault(h), impl.PackHead(h), impl.ReadHead(x.data), impl.HeadSum(h), impl.MayFollow(h.Phase, h.Epoch), impl.ChainFault(x.list), impl.HeadFor(x.d, h.Epoch, h.Phase, h.Prev))
}

func someHeadsAsked() []headAsked {
	heads := []impl.Head{{}, rooted(1, 1, 0), rooted(2, 2, 65520), rooted(10, 3, 7), rooted(5, 4, 258), rooted(4, 5, 9), rooted(11, 1, 0), rooted(1, 6, 0), rooted(1, 3, -1), {Epoch: 1, Phase: 4, Old: 1}, {Epoch: math.MinInt64, Phase: math.MaxInt64, Old: -1, New: 65521}}
	lists := append(longChains(), nil, chainOf(1), chainOf(4, 1), chainOf(1, 2, 3)[1:], make([]impl.Head, 2), make([]impl.Head, 11), turnedAt(longChains()[1], 9, func(h *impl.Head) { h.Prev = -1 }))
	datas := [][]byte{nil, {7}, headPacked(rooted(10, 3, 7)), headPacked(rooted(1, 1, 0)), append(headPacked(rooted(1, 1, 0)), 0), bytes.Repeat([]byte{255}, 11), headPacked(impl.Head{Epoch: 1, Phase: 4, Old: 1})}
	directories := []impl.Directory{{}, directoryAt(3), spread(12, 3, 22), spread(13, 0, 1), directoryAt(9, 3), {Records: []impl.Record{by(3, 1, 0), {Label: "a b"}}}}
	var out []headAsked
	for at := range len(heads) * 60 {
		out = append(out, headAsked{heads[at%len(heads)], datas[at/3%len(datas)], lists[at/5%len(lists)], directories[at/7%len(directories)]})
	}
	return out
}

// P1: what is handed in is as it was, with the room around it; and that room is not looked at.
func TestP1HeadArgumentsStay(t *testing.T) {
	heads, some := []impl.Head{rooted(1, 1, 0), {Epoch: -5}}, []byte{7, 0, 255}
	records := []impl.Record{by(7, 1, 0), {Label: "A b", Version: -1}}
	for _, x := range someHeadsAsked() {
		list, data, all := slices.Concat(heads, x.list, heads), slices.Concat(some, x.data, some), slices.Concat(records, x.d.Records, records)
		listWas, dataWas, allWas := slices.Clone(list), slices.Clone(data), slices.Clone(all)
		given := headAsked{head: x.head, data: data[3 : 3+len(x.data)], list: list[2 : 2+len(x.list)], d: impl.Directory{Records: all[2 : 2+len(x.d.Records)]}}
		if got, want := given.ask(), x.ask(); got != want {
			t.Fatalf("%v with room behind: %s, not %s", x, got, want)
		}
		if !slices.Equal(list, listWas) || !slices.Equal(data, dataWas) || !slices.Equal(all, allWas) {
			t.Fatalf("%v turned its arguments: %v, %v, %v", x, list, data, all)
		}
	}
}

// P1: what comes back shares no memory with another answer, nor with what is asked later.
func TestP1HeadAnswersAreNew(t *testing.T) {
	packed := 0
	for _, x := range someHeadsAsked() {
		want := x.ask()
		first, second := impl.PackHead(x.head), impl.PackHead(x.head)
		kept := slices.Clone(second.Bytes)
		for at := range first.Bytes[:cap(first.Bytes)] {
			first.Bytes[:cap(first.Bytes)][at] = 200
		}
		if !bytes.Equal(second.Bytes, kept) || x.ask() != want {
			t.Fatalf("%v: two answers share", x)
		}
		if first.Code == impl.OK {
			packed++
		}
		// A head that was read stays, whatever becomes of the bytes it was read from.
		data := slices.Clone(x.data)
		read := impl.ReadHead(data)
		clear(data)
		if read != headRead(x.data) {
			t.Fatalf("%v: an answer turned with what was handed in: %#v", x, read)
		}
	}
	if packed < 100 {
		t.Errorf("%d heads packed alone", packed)
	}
}

// P1: nil and an empty list are the same value.
func TestP1NoHeads(t *testing.T) {
	for _, phase := range allPhases {
		h := rooted(1, phase, 0)
		nothing := headAsked{head: h}
		empty := headAsked{head: h, data: make([]byte, 0, 11), list: make([]impl.Head, 0, 5), d: impl.Directory{Records: make([]impl.Record, 0, 5)}}
		if nothing.ask() != empty.ask() {
			t.Errorf("an empty list: %s, not %s", empty.ask(), nothing.ask())
		}
	}
}

func TestP1HeadsHangOnArguments(t *testing.T) {
	seeAgain(t, someHeadsAsked())
}

// P1: an answer at every argument, however far from what may be.
func TestP1HeadEveryArgument(t *testing.T) {
	if got := impl.ChainFault(make([]impl.Head, 1000000)); got != impl.ErrMany {
		t.Errorf("ChainFault of a million heads = %d", got)
	}
	if got := impl.ReadHead(bytes.Repeat([]byte{7}, 10000000)); got != noHead {
		t.Errorf("ReadHead of ten million bytes = %#v", got)
	}
	if got := impl.HeadFor(impl.Directory{Records: make([]impl.Record, 1000000)}, 1, 1, 0); got != (impl.HeadResult{Code: impl.ErrMany}) {
		t.Errorf("HeadFor a million records = %#v", got)
	}
	far := []int64{math.MinInt64, math.MinInt64 + 1, -1, 0, 1, 5, math.MaxInt64 - 1, math.MaxInt64}
	for _, epoch := range far {
		for _, phase := range far {
			for _, n := range far {
				h := impl.Head{Epoch: epoch, Phase: phase, Old: n, New: n, Prev: n}
				seeHead(t, h)
				seeChain(t, []impl.Head{h})
				seeChain(t, append(chainOf(1), h))
				seeChain(t, slices.Repeat([]impl.Head{h}, 3))
				seeHeadFor(t, impl.Directory{}, epoch, phase, n)
			}
		}
	}
}
