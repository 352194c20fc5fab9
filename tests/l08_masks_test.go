package tests

import (
	"fmt"
	"math"
	"math/rand"
	"runtime"
	"slices"
	"strings"
	"testing"
	"time"

	"loop.example/g00925/impl"
)

// mask returns a mask with the given offsets and losses.
func mask(offsets, losses []int64) impl.Mask { return impl.Mask{Offsets: offsets, Losses: losses} }

// channel returns the mask of a channel.
func channel(width, stop int64) impl.Mask {
	m, _ := impl.ChannelMask(width, stop)
	return m
}

// bent returns a mask with a number of offsets up to limit and losses up to stop, always the same ones.
func bent(count int, limit, stop, seed int64) impl.Mask {
	source := rand.New(rand.NewSource(seed))
	m := mask([]int64{0}, []int64{0})
	for len(m.Offsets) < count {
		if x := 1 + source.Int63n(limit); !slices.Contains(m.Offsets, x) {
			m.Offsets, m.Losses = append(m.Offsets, x), append(m.Losses, source.Int63n(stop+1))
		}
	}
	slices.Sort(m.Offsets)
	slices.Sort(m.Losses)
	return m
}

// masks returns valid masks of all lengths, those at the limits among them.
func masks() []impl.Mask {
	list := []impl.Mask{
		channel(200, 60000), channel(2, 0), channel(2, 120000), channel(3, 7), channel(100000, 120000), channel(99999, 25000),
		mask([]int64{0, 1}, []int64{0, 0}), mask([]int64{0, 1}, []int64{0, 120000}), mask([]int64{0, 100000}, []int64{0, 0}), mask([]int64{0, 100000}, []int64{0, 120000}),
		mask([]int64{0, 100, 101, 300}, []int64{0, 0, 20000, 20000}),
		mask([]int64{0, 1, 2, 3, 4, 5, 6, 7, 8, 9, 10, 11}, []int64{0, 0, 1, 1, 1, 2, 20, 200, 2000, 20000, 119999, 120000}),
	}
	for count := 2; count <= 12; count++ {
		list = append(list, bent(count, 1000, 40000, int64(count)), bent(count, 100000, 120000, int64(-count)))
	}
	return list
}

// badMasks are not valid, each for one reason.
func badMasks() []impl.Mask {
	bad := []impl.Mask{{}, mask([]int64{0}, []int64{0}), bent(13, 1000, 40000, 13), mask([]int64{0, 1}, nil), mask(nil, []int64{0, 1}), mask(zeros(70), zeros(70))}
	change := func(spoil func(m *impl.Mask)) {
		m := mask([]int64{0, 50, 400, 500}, []int64{0, 10000, 20000, 20000})
		spoil(&m)
		bad = append(bad, m)
	}
	for _, v := range []int64{math.MinInt64, -1, 1, 49} {
		change(func(m *impl.Mask) { m.Offsets[0] = v })
		change(func(m *impl.Mask) { m.Losses[0] = v })
	}
	for _, v := range []int64{math.MinInt64, -1, 0, 400, 401, math.MaxInt64} {
		change(func(m *impl.Mask) { m.Offsets[1] = v })
	}
	for _, v := range []int64{math.MinInt64, 399, 400, 100001, math.MaxInt64} {
		change(func(m *impl.Mask) { m.Offsets[3] = v })
	}
	for _, v := range []int64{math.MinInt64, -1, 20001, math.MaxInt64} {
		change(func(m *impl.Mask) { m.Losses[1] = v })
	}
	for _, v := range []int64{math.MinInt64, 19999, 120001, math.MaxInt64} {
		change(func(m *impl.Mask) { m.Losses[3] = v })
	}
	change(func(m *impl.Mask) { m.Offsets = m.Offsets[:3] })
	change(func(m *impl.Mask) { m.Losses = m.Losses[:3] })
	change(func(m *impl.Mask) { m.Offsets = append(m.Offsets, 600) })
	change(func(m *impl.Mask) { m.Losses = append(m.Losses, 20000) })
	change(func(m *impl.Mask) { slices.Reverse(m.Offsets) })
	change(func(m *impl.Mask) { slices.Reverse(m.Losses) })
	return bad
}

// badShifts are no offsets and no shifts.
var badShifts = []int64{-1000001, 1000001, math.MinInt64, math.MaxInt64}

func TestPromise9ValidMasks(t *testing.T) {
	for _, m := range append(masks(), mask([]int64{0, 50, 400, 500}, []int64{0, 10000, 20000, 20000})) {
		expect(t, "ValidMask", impl.ValidMask(m), true)
	}
	for i, m := range badMasks() {
		if impl.ValidMask(m) {
			t.Errorf("the bad mask %d is valid: %v", i, m)
		}
	}
}

func TestPromise9SameMasks(t *testing.T) {
	list := append(masks(), badMasks()...)
	for _, a := range list {
		expect(t, "SameMask of a copy", impl.SameMask(a, mask(slices.Clone(a.Offsets), slices.Clone(a.Losses))), true)
		for _, b := range list {
			if impl.SameMask(a, b) != (fmt.Sprint(a) == fmt.Sprint(b)) {
				t.Errorf("SameMask of %v and %v", a, b)
			}
		}
	}
	expect(t, "SameMask of nil and empty lists", impl.SameMask(impl.Mask{}, mask([]int64{}, []int64{})), true)
}

func TestPromise9ChannelMasks(t *testing.T) {
	for _, width := range []int64{2, 3, 4, 5, 199, 200, 99999, 100000} {
		for _, stop := range []int64{0, 1, 60000, 119999, 120000} {
			m, code := impl.ChannelMask(width, stop)
			want := mask([]int64{0, width / 2, width}, []int64{0, 0, stop})
			if code != impl.OK || !impl.SameMask(m, want) || !impl.ValidMask(m) {
				t.Errorf("ChannelMask(%d, %d) = %v, %d", width, stop, m, code)
			}
		}
	}
	for _, c := range [][2]int64{{1, 60000}, {0, 60000}, {-200, 60000}, {100001, 60000}, {200, -1}, {200, 120001}, {math.MinInt64, 0}, {math.MaxInt64, 0}, {200, math.MinInt64}, {200, math.MaxInt64}} {
		m, code := impl.ChannelMask(c[0], c[1])
		expect(t, "ChannelMask out of range", []any{m, code}, []any{impl.Mask{}, impl.ErrRange})
	}
	expect(t, "the example", impl.MaskText(channel(200, 60000)), "0,100,200 0,0,60000")
}

// slowLoss finds the loss by the words of the document.
func slowLoss(m impl.Mask, offset int64) int64 {
	away := max(offset, -offset)
	for i := 1; i < len(m.Offsets); i++ {
		if x0, x1, y0, y1 := m.Offsets[i-1], m.Offsets[i], m.Losses[i-1], m.Losses[i]; away <= x1 {
			return y0 + nearest((y1-y0)*(away-x0), x1-x0)
		}
	}
	return m.Losses[len(m.Losses)-1]
}

// offsetsOf returns offsets at, around and between those of a mask, and beyond the last one.
func offsetsOf(m impl.Mask) []int64 {
	list := []int64{77, 12345, 99999, 100000, 100001, 500000, 999999, 1000000}
	for i, x := range m.Offsets {
		list = append(list, x, x+1)
		if i > 0 {
			list = append(list, x-1, (x+m.Offsets[i-1])/2, (x+2*m.Offsets[i-1])/3)
		}
	}
	return list
}

func TestPromise9LossesAtOffsets(t *testing.T) {
	for _, m := range masks() {
		for _, x := range offsetsOf(m) {
			loss, code := impl.LossAtOffset(m, x)
			expect(t, "LossAtOffset", []int64{loss, code}, []int64{slowLoss(m, x), impl.OK})
			below, code := impl.LossAtOffset(m, -x)
			expect(t, "LossAtOffset on the other side", []int64{below, code}, []int64{loss, impl.OK})
			if x < 1000000 && value(impl.LossAtOffset(m, x+1)) < loss {
				t.Errorf("the loss of %v decreases at %d", m, x)
			}
		}
		for i, x := range m.Offsets {
			expect(t, "LossAtOffset at one of the offsets", value(impl.LossAtOffset(m, x)), m.Losses[i])
		}
		for _, x := range []int64{m.Offsets[len(m.Offsets)-1] + 1, 1000000, -1000000} {
			expect(t, "LossAtOffset beyond the last offset", value(impl.LossAtOffset(m, x)), m.Losses[len(m.Losses)-1])
		}
		for _, x := range badShifts {
			loss, code := impl.LossAtOffset(m, x)
			expect(t, "LossAtOffset out of range", []int64{loss, code}, []int64{0, impl.ErrRange})
		}
	}
	expect(t, "the example", value(impl.LossAtOffset(channel(200, 60000), -150)), 30000)
	for _, bad := range badMasks() {
		for _, x := range append(badShifts, 0) {
			loss, code := impl.LossAtOffset(bad, x)
			expect(t, "LossAtOffset of a bad mask", []int64{loss, code}, []int64{0, impl.ErrInvalid})
		}
	}
}

// expectWidth checks that the loss is exceeded just behind both ends of the width, and not before.
func expectWidth(t *testing.T, m impl.Mask, loss int64) {
	t.Helper()
	width, code := impl.WidthAt(m, loss)
	if m.Losses[len(m.Losses)-1] <= loss {
		expect(t, "WidthAt a loss that is not exceeded", []int64{width, code}, []int64{0, impl.ErrNotFound})
		return
	}
	if code != impl.OK || width < 0 || width%2 != 0 || slowLoss(m, width/2) > loss || slowLoss(m, width/2+1) <= loss {
		t.Errorf("WidthAt(%v, %d) = %d, %d", m, loss, width, code)
	}
}

func TestPromise9Widths(t *testing.T) {
	for _, m := range masks() {
		for _, loss := range []int64{0, 1, 2, 7, 200, 3000, 30000, 39999, 60000, 119999, 120000} {
			expectWidth(t, m, loss)
		}
		for _, v := range m.Losses {
			expectWidth(t, m, max(0, v-1))
			expectWidth(t, m, v)
			expectWidth(t, m, min(120000, v+1))
		}
		for _, loss := range []int64{-1, 120001, math.MinInt64, math.MaxInt64} {
			width, code := impl.WidthAt(m, loss)
			expect(t, "WidthAt out of range", []int64{width, code}, []int64{0, impl.ErrRange})
		}
	}
	c := channel(200, 60000)
	expect(t, "WidthAt of a channel", []int64{value(impl.WidthAt(c, 0)), value(impl.WidthAt(c, 30000)), value(impl.WidthAt(c, 59999))}, "[200 300 398]")
	steep := mask([]int64{0, 1}, []int64{0, 120000})
	expect(t, "WidthAt of the narrowest mask", []int64{value(impl.WidthAt(steep, 0)), value(impl.WidthAt(steep, 119999))}, "[0 0]")
	for _, bad := range badMasks() {
		for _, loss := range []int64{-1, 0, 120000, 120001} {
			width, code := impl.WidthAt(bad, loss)
			expect(t, "WidthAt of a bad mask", []int64{width, code}, []int64{0, impl.ErrInvalid})
		}
	}
}

// slowMeet joins the offsets of two masks one by one.
func slowMeet(a, b impl.Mask) impl.Mask {
	met := impl.Mask{}
	for x := int64(0); x <= 100000; x++ {
		if slices.Contains(a.Offsets, x) || slices.Contains(b.Offsets, x) {
			met.Offsets, met.Losses = append(met.Offsets, x), append(met.Losses, max(slowLoss(a, x), slowLoss(b, x)))
		}
	}
	return met
}

func TestPromise9MetMasksAreStricterThanBoth(t *testing.T) {
	list := masks()
	for i, a := range list {
		for _, b := range append(slices.Clone(list[max(0, i-4):i]), list[0], list[1], a) {
			met, code := impl.MeetMasks(a, b)
			want := slowMeet(a, b)
			if len(want.Offsets) > 12 {
				expect(t, "MeetMasks with too many offsets", []any{met, code}, []any{impl.Mask{}, impl.ErrFull})
				continue
			}
			expect(t, "MeetMasks", []any{met, code}, []any{want, impl.OK})
			back, _ := impl.MeetMasks(b, a)
			expect(t, "MeetMasks of a valid mask, and in the other order", []any{impl.ValidMask(met), back}, []any{true, met})
			for _, x := range append(offsetsOf(a), offsetsOf(b)...) {
				// The losses at the offsets of both masks are rounded, and those between them once more.
				if loss := slowLoss(met, x); loss < max(slowLoss(a, x), slowLoss(b, x))-1 {
					t.Errorf("at %d, %v loses less than %v or %v", x, met, a, b)
				}
			}
		}
		same, code := impl.MeetMasks(a, a)
		expect(t, "MeetMasks of a mask and itself", []any{same, code}, []any{a, impl.OK})
	}
}

func TestPromise9MetMasksWithErrors(t *testing.T) {
	full := mask([]int64{0, 1, 2, 3, 4, 5, 6, 7, 8, 9, 10, 11}, zeros(12))
	met, code := impl.MeetMasks(full, mask([]int64{0, 12}, zeros(2)))
	expect(t, "MeetMasks with 13 offsets", []any{met, code}, []any{impl.Mask{}, impl.ErrFull})
	met, code = impl.MeetMasks(full, mask([]int64{0, 11}, []int64{0, 11}))
	expect(t, "MeetMasks with 12 offsets", []any{met, code}, []any{mask(full.Offsets, full.Offsets), impl.OK})
	for _, bad := range badMasks() {
		for _, m := range []impl.Mask{channel(200, 60000), bent(12, 100000, 120000, 5), bad} {
			met, code := impl.MeetMasks(bad, m)
			expect(t, "MeetMasks of a bad mask", []any{met, code}, []any{impl.Mask{}, impl.ErrInvalid})
			met, code = impl.MeetMasks(m, bad)
			expect(t, "MeetMasks with a bad mask", []any{met, code}, []any{impl.Mask{}, impl.ErrInvalid})
		}
	}
}

// partCache keeps the parts of levels, which take long to compute.
type partCache map[int64]int64

// part returns the part of a level at most 0 by the words of the document.
func (c partCache) part(v int64) int64 {
	switch {
	case v < -90000:
		return 0
	case v == 0:
		return 1000000000
	}
	if _, ok := c[v]; !ok {
		c[v] = impl.PowDb(90000 + v)
	}
	return c[v]
}

// discrimination returns by how much a filter weakens an emission by the words of the document.
func (c partCache) discrimination(emission, filter impl.Mask, shift int64) int64 {
	w := emission.Offsets[len(emission.Offsets)-1]
	first, second := int64(0), int64(0)
	for i := range int64(65) {
		x := nearest(2*w*i, 64) - w
		first += c.part(-slowLoss(emission, x))
		second += c.part(-slowLoss(emission, x) - slowLoss(filter, x-shift))
	}
	if second == 0 {
		return 120000
	}
	return impl.LogDb(first) - impl.LogDb(second)
}

// shifts returns shifts that are interesting for two masks.
func shifts(a, b impl.Mask) []int64 {
	wide, other := a.Offsets[len(a.Offsets)-1], b.Offsets[len(b.Offsets)-1]
	list := []int64{0, 1, 5, wide / 2, other / 2, wide, other, wide + other - 1, wide + other, wide + other + 1, 999999, 1000000}
	for _, shift := range slices.Clone(list) {
		list = append(list, -shift)
	}
	return list
}

// pairsOfMasks calls a function for masks of transmitters and of receivers.
func pairsOfMasks(visit func(emission, filter impl.Mask)) {
	list := masks()
	for i, a := range list {
		for _, b := range []impl.Mask{a, list[(i+1)%len(list)], list[(i+5)%len(list)], channel(200, 60000)} {
			visit(a, b)
		}
	}
}

func TestPromise9FiltersNeverStrengthen(t *testing.T) {
	cache := partCache{}
	pairsOfMasks(func(a, b impl.Mask) {
		for _, shift := range shifts(a, b) {
			weaker, code := impl.Discrimination(a, b, shift)
			expect(t, "Discrimination", []int64{weaker, code}, []int64{cache.discrimination(a, b, shift), impl.OK})
			if weaker < 0 || weaker > 120000 {
				t.Errorf("Discrimination(%v, %v, %d) = %d", a, b, shift, weaker)
			}
		}
		for _, shift := range badShifts {
			weaker, code := impl.Discrimination(a, b, shift)
			expect(t, "Discrimination out of range", []int64{weaker, code}, []int64{0, impl.ErrRange})
		}
	})
	open := mask([]int64{0, 1}, zeros(2))
	for _, m := range masks() {
		for _, shift := range []int64{0, -100, 1000000} {
			expect(t, "Discrimination by a filter without losses", value(impl.Discrimination(m, open, shift)), 0)
		}
	}
	list, c := []int64{}, channel(200, 60000)
	for k := int64(-1); k < 5; k++ {
		list = append(list, value(impl.Discrimination(c, c, 100*k)))
	}
	expect(t, "Discrimination of a channel", list, "[2708 132 2708 11424 58408 60000]")
}

func TestPromise9PartsVanish(t *testing.T) {
	open := mask([]int64{0, 100}, zeros(2)) // an emission that is equally strong up to its end
	stop := func(loss int64) impl.Mask { return mask([]int64{0, 1}, []int64{0, loss}) }
	// 65 parts of 1 are left of 65 parts of 10^9.
	expect(t, "the last parts", value(impl.Discrimination(open, stop(90000), 5000)), 90000)
	expect(t, "no part", value(impl.Discrimination(open, stop(90001), 5000)), 120000)
	expect(t, "one whole part only", value(impl.Discrimination(open, stop(90001), 0)), impl.LogDb(65))
	expect(t, "one whole part and 64 others", value(impl.Discrimination(open, stop(90000), 0)), impl.LogDb(65000000000)-impl.LogDb(1000000064))
	sharp := channel(2, 120000)
	expect(t, "parts that vanish by the emission and the filter", []int64{value(impl.Discrimination(sharp, sharp, 5)), value(impl.Discrimination(sharp, sharp, -5))}, "[120000 120000]")
	// Only the middle of the emission is left, where its own loss is 0.
	narrow := mask([]int64{0, 64}, []int64{0, 120000})
	expect(t, "the emission vanishes beside its middle", value(impl.Discrimination(narrow, stop(90001), 0)), impl.LogDb(sumOfParts(narrow))-90000)
	// Both losses together are too great, and neither is for itself.
	gentle := mask([]int64{0, 1, 100}, []int64{0, 50000, 50000})
	expect(t, "the middle is left by both", value(impl.Discrimination(gentle, stop(40001), 0)), impl.LogDb(sumOfParts(gentle))-90000)
}

// sumOfParts returns the power of an emission.
func sumOfParts(m impl.Mask) int64 {
	sum, cache := int64(0), partCache{}
	w := m.Offsets[len(m.Offsets)-1]
	for i := range int64(65) {
		sum += cache.part(-slowLoss(m, nearest(2*w*i, 64)-w))
	}
	return sum
}

func TestPromise9OffsetsBeyondTheLastOne(t *testing.T) {
	wide := mask([]int64{0, 100000}, zeros(2))
	filter := mask([]int64{0, 50, 99999, 100000}, []int64{0, 10000, 10000, 30000})
	for _, shift := range []int64{-1000000, -999999, -200000, 200000, 999999, 1000000} {
		expect(t, "Discrimination of all samples beyond the filter", value(impl.Discrimination(wide, filter, shift)), 30000)
	}
	// The last one of 65 samples is just within the filter, or the first one.
	within := impl.LogDb(65000000000) - impl.LogDb(64000000+100000000)
	expect(t, "Discrimination of one sample within the filter", []int64{value(impl.Discrimination(wide, filter, 199999)), value(impl.Discrimination(wide, filter, -199999))}, []int64{within, within})
	// The first sample is at -w, and the one with the index 2 at -w plus 12.5, rounded away from 0.
	narrow := mask([]int64{0, 200}, zeros(2))
	only := func(at int64) int64 {
		return value(impl.Discrimination(narrow, mask([]int64{0, 1}, []int64{0, 120000}), at))
	}
	expect(t, "a filter at samples and beside them", []int64{only(-200), only(200), only(0), only(-187), only(-188), only(188), only(187), only(-201), only(201)}, "[18129 18129 18129 18129 120000 18129 120000 120000 120000]")
}

// stricter returns a mask with the same offsets and greater losses.
func stricter(m impl.Mask, by int64) impl.Mask {
	losses := slices.Clone(m.Losses)
	for i := range losses {
		if i > 0 {
			losses[i] = min(120000, losses[i]+by*int64(i))
		}
	}
	return mask(slices.Clone(m.Offsets), losses)
}

func TestPromise9StricterFiltersWeakenMore(t *testing.T) {
	compared := 0
	pairsOfMasks(func(a, b impl.Mask) {
		for _, shift := range shifts(a, b) {
			weaker := value(impl.Discrimination(a, b, shift))
			for _, by := range []int64{1, 30000} {
				if more := value(impl.Discrimination(a, stricter(b, by), shift)); more < weaker {
					t.Errorf("%v, shifted by %d, weakens %v by %d, and with %d more by %d", b, shift, a, weaker, by, more)
				}
			}
			met, code := impl.MeetMasks(a, b)
			if code != impl.OK || weaker >= 30000 {
				continue
			}
			compared++
			// A loss of a met mask can be less by 1, which is rounded once more in the sum.
			if more := value(impl.Discrimination(a, met, shift)); more < weaker-3 {
				t.Errorf("%v, shifted by %d, weakens %v by %d, and met with it by %d", b, shift, a, weaker, more)
			}
		}
	})
	if compared < 100 {
		t.Errorf("only %d met masks were compared", compared)
	}
}

func TestPromise9DiscriminationWithErrors(t *testing.T) {
	c := channel(200, 60000)
	for _, bad := range badMasks() {
		for _, shift := range append(badShifts, 0) {
			weaker, code := impl.Discrimination(bad, c, shift)
			expect(t, "Discrimination of a bad emission", []int64{weaker, code}, []int64{0, impl.ErrInvalid})
			weaker, code = impl.Discrimination(c, bad, shift)
			expect(t, "Discrimination by a bad filter", []int64{weaker, code}, []int64{0, impl.ErrInvalid})
		}
		for _, raster := range []int64{0, 100} {
			table, code := impl.DiscriminationTable(bad, c, raster, 4)
			expect(t, "DiscriminationTable of a bad emission", []any{table, code}, []any{[]int64{}, impl.ErrInvalid})
			table, code = impl.DiscriminationTable(c, bad, raster, 0)
			expect(t, "DiscriminationTable by a bad filter", []any{table, code}, []any{[]int64{}, impl.ErrInvalid})
		}
	}
	for _, c := range [][2]int64{{0, 4}, {-1, 4}, {100001, 4}, {100, 0}, {100, -1}, {100, 11}, {math.MinInt64, 4}, {math.MaxInt64, 4}, {100, math.MinInt64}, {100, math.MaxInt64}} {
		m := channel(200, 60000)
		table, code := impl.DiscriminationTable(m, m, c[0], c[1])
		expect(t, "DiscriminationTable out of range", []any{table, code}, []any{[]int64{}, impl.ErrRange})
	}
}

func TestPromise9TablesNeverDecrease(t *testing.T) {
	cache := partCache{}
	pairsOfMasks(func(a, b impl.Mask) {
		for _, raster := range []int64{1, 100, 100000} {
			want, most := []int64{}, int64(0)
			for k := range int64(10) {
				most = max(most, cache.discrimination(a, b, k*raster))
				want = append(want, most-cache.discrimination(a, b, 0))
			}
			for _, count := range []int64{1, 2, 10} {
				table, code := impl.DiscriminationTable(a, b, raster, count)
				expect(t, "DiscriminationTable", []any{table, code}, []any{want[:count], impl.OK})
				_, code = impl.StepsFor(table, table[count-1])
				expect(t, "StepsFor the last number of a computed table", code, impl.OK)
			}
		}
	})
	c := channel(200, 60000)
	table, _ := impl.DiscriminationTable(c, c, 100, 4)
	expect(t, "DiscriminationTable of a channel", table, "[0 2576 11292 58276]")
	// The discrimination falls again where another part of the emission comes into the filter, and the table does not.
	hollow, wide := mask([]int64{0, 1, 2}, []int64{0, 0, 120000}), mask([]int64{0, 200}, zeros(2))
	falls := []int64{value(impl.Discrimination(wide, hollow, 0)), value(impl.Discrimination(wide, hollow, 3)), value(impl.Discrimination(wide, hollow, 6))}
	table, _ = impl.DiscriminationTable(wide, hollow, 3, 3)
	if falls[2] >= falls[1] {
		t.Errorf("the discrimination does not fall: %v", falls)
	}
	expect(t, "DiscriminationTable where the discrimination falls", table, []int64{0, falls[1] - falls[0], falls[1] - falls[0]})
}

// tables returns lists that can be tables.
func tables() [][]int64 {
	list := [][]int64{{0}, zeros(64), {0, 120000}, {0, 0, 5, 5, 5, 9000, 120000}, {0, 2576, 11292, 58276}}
	for i, m := range masks() {
		list = append(list, append(slices.Clone(m.Losses), slices.Repeat([]int64{120000}, i)...))
	}
	return list
}

func TestPromise9StepsAreTheLeastOnes(t *testing.T) {
	for _, table := range tables() {
		needs := slices.Clone(extremes)
		for _, v := range table {
			needs = append(needs, v-1, v, v+1)
		}
		for _, need := range needs {
			steps, code := impl.StepsFor(table, need)
			want, wantCode := slices.IndexFunc(table, func(v int64) bool { return v >= need }), int64(impl.OK)
			if want < 0 {
				want, wantCode = 0, impl.ErrNotFound
			}
			expect(t, "StepsFor", []any{steps, code}, []any{want, wantCode})
		}
	}
	bad := [][]int64{nil, {}, {1}, {-1}, {1, 2}, {-1, 0}, {0, -1}, {0, 5, 4}, {0, 5, 5, 0}, {0, 120001}, {0, 0, 120001, 120000}, {math.MinInt64}, {0, math.MinInt64}, {0, math.MaxInt64}, {0, 5, math.MinInt64}, zeros(65), zeros(100000)}
	for _, table := range bad {
		for _, need := range []int64{math.MinInt64, 0, 1, 120000, math.MaxInt64} {
			steps, code := impl.StepsFor(table, need)
			expect(t, "StepsFor of a bad table", []int64{steps, code}, []int64{0, impl.ErrInvalid})
		}
	}
}

// maskText joins what the document names.
func maskText(m impl.Mask) string { return impl.ListText(m.Offsets) + " " + impl.ListText(m.Losses) }

func TestPromise9TextsOfMasks(t *testing.T) {
	for _, m := range masks() {
		text := impl.MaskText(m)
		expect(t, "MaskText", text, maskText(m))
		back, ok := impl.ReadMask(text)
		if !ok || !impl.SameMask(back, m) {
			t.Errorf("ReadMask(%q) = %v, %v", text, back, ok)
		}
	}
	for _, bad := range badMasks() {
		expect(t, "MaskText of a bad mask", impl.MaskText(bad), "")
		back, ok := impl.ReadMask(maskText(bad))
		expect(t, "ReadMask of what would be the text of a bad mask", []any{back, ok}, []any{impl.Mask{}, false})
	}
}

// otherMaskTexts are nearly texts of masks.
func otherMaskTexts() []string {
	text := impl.MaskText(channel(200, 60000))
	list := []string{text + " ", " " + text, text + "\n", text + ",", text + " 0", text + text, "0,1 0", "0,1 1,1", "1,2 0,0", "0,0 0,0", "0,1  0,0", "0,1", "0,1 ", "- -", "0,1 -", "- 0,0", "0,1 x,0", "x,1 0,0", "0 0",
		strings.Repeat("0,", 5000) + "0 0", "0 " + strings.Repeat("0,", 5000) + "0"}
	for _, change := range [][2]string{{" ", "\t"}, {" ", ","}, {" ", ""}, {"100", "+100"}, {"100", "0100"}, {"100", "-100"}, {"100", "1e2"}, {"200", "200000"}, {"200", "99"}, {",200", ";200"}, {",", ",,"}, {"60000", "120001"}, {"60000", "-60000"}, {"60000", "60.000"}} {
		list = append(list, strings.Replace(text, change[0], change[1], 1))
	}
	return list
}

func TestPromise9OtherTextsAreNotRead(t *testing.T) {
	for _, s := range append(otherMaskTexts(), oddTexts...) {
		if m, ok := impl.ReadMask(s); ok || !impl.SameMask(m, impl.Mask{}) {
			t.Errorf("ReadMask(%.60q) = %v, %v", s, m, ok)
		}
	}
}

func TestPromise9NothingRunsAfterTheCall(t *testing.T) {
	before := runtime.NumGoroutine()
	for range 20 {
		impl.Discrimination(channel(200, 60000), channel(2, 120000), 50)
		impl.DiscriminationTable(channel(200, 60000), channel(200, 60000), 100, 4)
		impl.Discrimination(impl.Mask{}, channel(2, 0), 1)
	}
	// What sends the last sample may need a moment to end.
	for wait := 0; runtime.NumGoroutine() > before && wait < 500; wait++ {
		time.Sleep(10 * time.Millisecond)
	}
	if after := runtime.NumGoroutine(); after > before {
		t.Errorf("%d goroutines are left, after %d before", after, before)
	}
}
