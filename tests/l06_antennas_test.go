package tests

import (
	"math"
	"math/rand"
	"slices"
	"strconv"
	"strings"
	"testing"

	"loop.example/g00925/impl"
)

// beam returns an antenna with a parabolic pattern.
func beam(gain, width, height int64) impl.Antenna {
	a, _ := impl.BeamAntenna("beam", gain, width, height)
	return a
}

// omni returns an antenna without losses.
func omni(gain int64) impl.Antenna {
	a, _ := impl.OmniAntenna("omni", gain)
	return a
}

// jagged returns an antenna with losses up to a limit that are not the same on both sides, always the same ones.
func jagged(gain, limit int64) impl.Antenna {
	source := rand.New(rand.NewSource(limit))
	a := impl.Antenna{Name: "j" + strconv.FormatInt(limit, 10), Gain: gain, Horizontal: zeros(36), Vertical: zeros(19)}
	for _, list := range [][]int64{a.Horizontal, a.Vertical} {
		for i := range list {
			list[i] = source.Int63n(limit + 1)
		}
	}
	a.Horizontal[0], a.Vertical[9] = 0, 0
	return a
}

// antennas returns valid antennas with many patterns, those at the limits among them.
func antennas() []impl.Antenna {
	list := []impl.Antenna{omni(0), omni(60000), omni(-60000), beam(15000, 60, 10), beam(-2150, 1, 1), beam(60000, 360, 360), beam(-60000, 90, 359), beam(0, 33, 7)}
	for _, limit := range []int64{1, 9, 3001, 6000, 24000, 59999, 60000} {
		list = append(list, jagged(limit-30000, limit))
	}
	steep := jagged(7, 2)
	for _, losses := range [][]int64{steep.Horizontal, steep.Vertical} {
		for i := range losses {
			losses[i] = 60000 * int64(i%2)
		}
	}
	steep.Vertical[9] = 0
	return append(list, steep)
}

// badAntennas are not valid, each for one reason.
func badAntennas() []impl.Antenna {
	bad := []impl.Antenna{{}}
	change := func(spoil func(a *impl.Antenna)) {
		a := jagged(3000, 500)
		spoil(&a)
		bad = append(bad, a)
	}
	for _, name := range []string{"", "A", "1a", "a b", "abcdefghijk", "é"} {
		change(func(a *impl.Antenna) { a.Name = name })
	}
	for _, v := range []int64{-60001, 60001, math.MinInt64, math.MaxInt64} {
		change(func(a *impl.Antenna) { a.Gain = v })
	}
	for _, v := range []int64{-1, 60001, math.MinInt64, math.MaxInt64} {
		for _, i := range []int{0, 1, 35} {
			change(func(a *impl.Antenna) { a.Horizontal[i] = v })
		}
		for _, i := range []int{0, 9, 18} {
			change(func(a *impl.Antenna) { a.Vertical[i] = v })
		}
	}
	change(func(a *impl.Antenna) { a.Horizontal[0] = 1 })
	change(func(a *impl.Antenna) { a.Vertical[9] = 1 })
	change(func(a *impl.Antenna) { a.Horizontal = a.Horizontal[:35] })
	change(func(a *impl.Antenna) { a.Vertical = a.Vertical[:18] })
	change(func(a *impl.Antenna) { a.Horizontal = append(a.Horizontal, 0) })
	change(func(a *impl.Antenna) { a.Vertical = append(a.Vertical, 0) })
	change(func(a *impl.Antenna) { a.Horizontal = nil })
	change(func(a *impl.Antenna) { a.Vertical = nil })
	change(func(a *impl.Antenna) { a.Horizontal, a.Vertical = a.Vertical, a.Horizontal })
	return bad
}

func TestPromise7ValidAntennas(t *testing.T) {
	for _, a := range antennas() {
		expect(t, "ValidAntenna", impl.ValidAntenna(a), true)
	}
	for i, a := range badAntennas() {
		if impl.ValidAntenna(a) {
			t.Errorf("the bad antenna %d is valid", i)
		}
	}
}

func TestPromise7SameAntennas(t *testing.T) {
	list := append(antennas(), badAntennas()...)
	for i, a := range list {
		copied := impl.Antenna{Name: a.Name, Gain: a.Gain, Horizontal: slices.Clone(a.Horizontal), Vertical: slices.Clone(a.Vertical)}
		expect(t, "SameAntenna of a copy", impl.SameAntenna(a, copied), true)
		for k, b := range list {
			if impl.SameAntenna(a, b) != (i == k) {
				t.Errorf("SameAntenna of the antennas %d and %d", i, k)
			}
		}
	}
	expect(t, "SameAntenna of nil and empty lists", impl.SameAntenna(impl.Antenna{}, impl.Antenna{Horizontal: []int64{}, Vertical: []int64{}}), true)
}

func TestPromise7OmniAntennas(t *testing.T) {
	for _, gain := range []int64{-60000, -1, 0, 2150, 60000} {
		a, code := impl.OmniAntenna("abcdefghi9", gain)
		want := impl.Antenna{Name: "abcdefghi9", Gain: gain, Horizontal: zeros(36), Vertical: zeros(19)}
		if code != impl.OK || !impl.SameAntenna(a, want) || !impl.ValidAntenna(a) {
			t.Errorf("OmniAntenna with the gain %d: %v, %d", gain, a, code)
		}
	}
	for _, gain := range []int64{-60001, 60001, math.MinInt64, math.MaxInt64} {
		a, code := impl.OmniAntenna("a", gain)
		expect(t, "OmniAntenna with a bad gain", []any{a, code}, []any{impl.Antenna{}, impl.ErrRange})
		a, code = impl.OmniAntenna("", gain)
		expect(t, "OmniAntenna with a bad name and gain", []any{a, code}, []any{impl.Antenna{}, impl.ErrInvalid})
	}
	a, code := impl.OmniAntenna("abcdefghi10", 0)
	expect(t, "OmniAntenna with a bad name", []any{a, code}, []any{impl.Antenna{}, impl.ErrInvalid})
}

func TestPromise7BeamAntennas(t *testing.T) {
	for _, width := range []int64{1, 2, 10, 59, 60, 65, 90, 127, 254, 255, 359, 360} {
		for _, height := range []int64{1, 7, 10, 60, 63, 64, 128, 360} {
			a, code := impl.BeamAntenna("a", width-height, width, height)
			want := impl.Antenna{Name: "a", Gain: width - height}
			for i := range int64(36) {
				angle := 10 * min(i, 36-i)
				want.Horizontal = append(want.Horizontal, min(24000, nearest(12000*angle*angle, width*width)))
			}
			for i := range int64(19) {
				angle := max(10*i-90, 90-10*i)
				want.Vertical = append(want.Vertical, min(24000, nearest(12000*angle*angle, height*height)))
			}
			if code != impl.OK || !impl.SameAntenna(a, want) || !impl.ValidAntenna(a) {
				t.Errorf("BeamAntenna with the width %d and the height %d: %v, %d", width, height, a, code)
			}
		}
	}
	expect(t, "the example", beam(15000, 60, 10).Horizontal[:5], "[0 333 1333 3000 5333]")
	expect(t, "the other side", beam(15000, 60, 10).Horizontal[32:], "[5333 3000 1333 333]")
	expect(t, "up and down", beam(15000, 60, 10).Vertical[6:13], "[24000 24000 12000 0 12000 24000 24000]")
}

func TestPromise7BeamAntennasWithErrors(t *testing.T) {
	for _, gain := range []int64{-60000, 60000} {
		_, code := impl.BeamAntenna("a", gain, 360, 1)
		expect(t, "BeamAntenna at the limits", code, impl.OK)
	}
	for _, c := range [][3]int64{{-60001, 60, 10}, {60001, 60, 10}, {0, 0, 10}, {0, 361, 10}, {0, 60, 0}, {0, 60, 361}, {0, -60, 10}, {0, 60, -10},
		{math.MinInt64, 60, 10}, {math.MaxInt64, 60, 10}, {0, math.MinInt64, 10}, {0, math.MaxInt64, 10}, {0, 60, math.MinInt64}, {0, 60, math.MaxInt64}} {
		a, code := impl.BeamAntenna("a", c[0], c[1], c[2])
		expect(t, "BeamAntenna out of range", []any{a, code}, []any{impl.Antenna{}, impl.ErrRange})
		a, code = impl.BeamAntenna("A", c[0], c[1], c[2])
		expect(t, "BeamAntenna out of range with a bad name", []any{a, code}, []any{impl.Antenna{}, impl.ErrInvalid})
	}
	a, code := impl.BeamAntenna("a-", 0, 60, 10)
	expect(t, "BeamAntenna with a bad name", []any{a, code}, []any{impl.Antenna{}, impl.ErrInvalid})
}

// degrees returns the direction from 0 to 359 that is the same as another one.
func degrees(angle int64) int64 {
	if angle %= 360; angle < 0 {
		angle += 360
	}
	return angle
}

// slowHorizontal interpolates by the words of the document.
func slowHorizontal(a impl.Antenna, angle int64) int64 {
	i, u := degrees(angle)/10, degrees(angle)%10
	return (a.Horizontal[i]*(10-u) + a.Horizontal[(i+1)%36]*u + 5) / 10
}

// slowVertical interpolates by the words of the document.
func slowVertical(a impl.Antenna, elevation int64) int64 {
	i, u := (elevation+90)/10, (elevation+90)%10
	if u == 0 {
		return a.Vertical[i]
	}
	return (a.Vertical[i]*(10-u) + a.Vertical[i+1]*u + 5) / 10
}

func TestPromise7HorizontalLosses(t *testing.T) {
	for _, a := range antennas() {
		for angle := int64(-800); angle <= 800; angle++ {
			loss, code := impl.HorizontalLoss(a, angle)
			expect(t, "HorizontalLoss", []int64{loss, code}, []int64{slowHorizontal(a, angle), impl.OK})
			i := degrees(angle) / 10
			one, other := a.Horizontal[i], a.Horizontal[(i+1)%36]
			if loss < min(one, other) || loss > max(one, other) || angle%10 == 0 && loss != one {
				t.Errorf("the loss at %d degrees is %d, and the losses there are %d and %d", angle, loss, one, other)
			}
		}
		for _, angle := range extremes {
			loss, code := impl.HorizontalLoss(a, angle)
			expect(t, "HorizontalLoss at a number out of the ordinary", []int64{loss, code}, []int64{slowHorizontal(a, angle), impl.OK})
		}
	}
	a := beam(15000, 60, 10)
	for angle, want := range map[int64]int64{-5: 167, 355: 167, 5: 167, 0: 0, 360: 0, -360: 0, 1: 33, 359: 33, 180: 24000, -180: 24000, 30: 3000, 330: 3000} {
		expect(t, "the loss of a beam at "+strconv.FormatInt(angle, 10), value(impl.HorizontalLoss(a, angle)), want)
	}
	for _, bad := range badAntennas() {
		loss, code := impl.HorizontalLoss(bad, 0)
		expect(t, "HorizontalLoss of a bad antenna", []int64{loss, code}, []int64{0, impl.ErrInvalid})
	}
}

func TestPromise7VerticalLosses(t *testing.T) {
	for _, a := range antennas() {
		for elevation := int64(-90); elevation <= 90; elevation++ {
			loss, code := impl.VerticalLoss(a, elevation)
			expect(t, "VerticalLoss", []int64{loss, code}, []int64{slowVertical(a, elevation), impl.OK})
		}
		ends := []int64{value(impl.VerticalLoss(a, -90)), value(impl.VerticalLoss(a, 0)), value(impl.VerticalLoss(a, 90))}
		expect(t, "VerticalLoss at the ends and at the level", ends, []int64{a.Vertical[0], 0, a.Vertical[18]})
		for _, elevation := range []int64{-91, 91, 180, -180, 360, math.MinInt64, math.MaxInt64} {
			loss, code := impl.VerticalLoss(a, elevation)
			expect(t, "VerticalLoss beyond the ends", []int64{loss, code}, []int64{0, impl.ErrRange})
		}
	}
	for _, bad := range badAntennas() {
		for _, elevation := range []int64{0, 91} {
			loss, code := impl.VerticalLoss(bad, elevation)
			expect(t, "VerticalLoss of a bad antenna", []int64{loss, code}, []int64{0, impl.ErrInvalid})
		}
	}
}

// slowGain computes a gain by the words of the document.
func slowGain(a impl.Antenna, azimuth, tilt, bearing, elevation int64) int64 {
	return a.Gain - min(60000, slowHorizontal(a, bearing-azimuth)+slowVertical(a, max(-90, min(90, elevation+tilt))))
}

func TestPromise7GainsOfTurnedAndTiltedAntennas(t *testing.T) {
	azimuths := []int64{0, 1, 45, 90, 179, 180, 181, 270, 355, 359}
	elevations := []int64{-90, -89, -45, -10, -3, 0, 4, 10, 46, 89, 90}
	for _, a := range antennas() {
		for _, azimuth := range azimuths {
			for _, bearing := range azimuths {
				for _, tilt := range elevations {
					for _, elevation := range elevations {
						gain, code := impl.GainToward(a, azimuth, tilt, bearing, elevation)
						if want := slowGain(a, azimuth, tilt, bearing, elevation); gain != want || code != impl.OK {
							t.Fatalf("GainToward(%v, %d, %d, %d, %d) = %d, %d instead of %d", a, azimuth, tilt, bearing, elevation, gain, code, want)
						}
						turned, _ := impl.GainToward(a, (azimuth+7)%360, tilt, (bearing+7)%360, elevation)
						straight, _ := impl.GainToward(a, 0, 0, degrees(bearing-azimuth), max(-90, min(90, elevation+tilt)))
						if turned != gain || straight != gain {
							t.Fatalf("the gain %d of %v is %d when both are turned, and %d seen from the antenna", gain, a, turned, straight)
						}
					}
				}
			}
		}
	}
}

func TestPromise7GainsOfABeam(t *testing.T) {
	a := beam(15000, 60, 10)
	for _, c := range [][5]int64{
		{90, 5, 90, -5, 15000}, {90, 0, 120, 0, 12000}, {90, 0, 60, 0, 12000}, {90, 0, 270, 90, -33000}, {90, 0, 90, -10, 3000}, {90, 10, 90, -10, 15000},
		{90, 10, 90, -20, 3000}, {350, 0, 20, 0, 12000}, {20, 0, 350, 0, 12000}, {0, 90, 0, 90, -9000}, {0, -90, 0, -90, -9000}, {0, 90, 0, -90, 15000},
	} {
		gain, code := impl.GainToward(a, c[0], c[1], c[2], c[3])
		expect(t, "GainToward", []int64{gain, code}, []int64{c[4], impl.OK})
	}
	weak := jagged(5000, 9)
	weak.Horizontal[18], weak.Vertical[0], weak.Vertical[18] = 50000, 10000, 10001
	below, _ := impl.GainToward(weak, 0, 0, 180, -90)
	above, _ := impl.GainToward(weak, 0, 0, 180, 90)
	expect(t, "two losses that together are the greatest one, or more", []int64{below, above}, "[-55000 -55000]")
}

func TestPromise7GainsWithErrors(t *testing.T) {
	a := beam(15000, 60, 10)
	for _, v := range []int64{-1, 360, 361, math.MinInt64, math.MaxInt64} {
		for _, c := range [][2]int64{{v, 0}, {0, v}, {v, v}} {
			gain, code := impl.GainToward(a, c[0], 0, c[1], 0)
			expect(t, "GainToward with a bad direction", []int64{gain, code}, []int64{0, impl.ErrRange})
		}
	}
	for _, v := range []int64{-91, 91, math.MinInt64, math.MaxInt64} {
		for _, c := range [][2]int64{{v, 0}, {0, v}, {v, -v}} {
			gain, code := impl.GainToward(a, 0, c[0], 0, c[1])
			expect(t, "GainToward with a bad elevation", []int64{gain, code}, []int64{0, impl.ErrRange})
		}
	}
	for _, bad := range badAntennas() {
		for _, v := range []int64{0, 360} {
			gain, code := impl.GainToward(bad, v, 0, 0, 0)
			expect(t, "GainToward of a bad antenna", []int64{gain, code}, []int64{0, impl.ErrInvalid})
		}
	}
}

func TestPromise7MirroredAntennas(t *testing.T) {
	for _, a := range antennas() {
		mirrored, code := impl.MirrorAntenna(a)
		again, _ := impl.MirrorAntenna(mirrored)
		if code != impl.OK || !impl.ValidAntenna(mirrored) || !impl.SameAntenna(again, a) {
			t.Errorf("MirrorAntenna(%v) = %v, %d, and mirrored again %v", a, mirrored, code, again)
		}
		expect(t, "what a mirrored antenna keeps", []any{mirrored.Name, mirrored.Gain, mirrored.Vertical}, []any{a.Name, a.Gain, a.Vertical})
		for angle := int64(-180); angle <= 180; angle++ {
			expect(t, "the loss of a mirrored antenna", value(impl.HorizontalLoss(mirrored, angle)), value(impl.HorizontalLoss(a, -angle)))
			one, _ := impl.GainToward(a, 20, 3, degrees(20+angle), 1)
			other, _ := impl.GainToward(mirrored, 340, 3, degrees(340-angle), 1)
			expect(t, "the gain of a mirrored antenna", other, one)
		}
	}
	a := jagged(0, 60000)
	mirrored, _ := impl.MirrorAntenna(a)
	expect(t, "the losses at 0, 10, 180, 350 degrees", []int64{mirrored.Horizontal[0], mirrored.Horizontal[1], mirrored.Horizontal[18], mirrored.Horizontal[35]}, []int64{0, a.Horizontal[35], a.Horizontal[18], a.Horizontal[1]})
	for _, bad := range badAntennas() {
		got, code := impl.MirrorAntenna(bad)
		expect(t, "MirrorAntenna of a bad antenna", []any{got, code}, []any{impl.Antenna{}, impl.ErrInvalid})
	}
}

// expectEnvelope checks the losses in one plane against the words of the document.
func expectEnvelope(t *testing.T, gain, gainA, gainB int64, envelope, a, b []int64) {
	t.Helper()
	for i, loss := range envelope {
		ofA, ofB := gainA-a[i], gainB-b[i]
		if gain-loss < max(ofA, ofB) {
			t.Errorf("at the index %d, an envelope has the gain %d less the loss %d, and the antennas have %d and %d", i, gain, loss, ofA, ofB)
		}
		if loss < 60000 && gain-loss != max(ofA, ofB) || loss > 60000 {
			t.Errorf("the loss %d at the index %d is not the least one: the antennas have the gains %d and %d of %d", loss, i, ofA, ofB, gain)
		}
	}
}

func TestPromise7Envelopes(t *testing.T) {
	for _, a := range antennas() {
		for _, b := range antennas() {
			e, code := impl.EnvelopeOf(a, b, "e1")
			if code != impl.OK || !impl.ValidAntenna(e) || e.Name != "e1" || e.Gain != max(a.Gain, b.Gain) {
				t.Fatalf("EnvelopeOf(%v, %v) = %v, %d", a, b, e, code)
			}
			expectEnvelope(t, e.Gain, a.Gain, b.Gain, e.Horizontal, a.Horizontal, b.Horizontal)
			expectEnvelope(t, e.Gain, a.Gain, b.Gain, e.Vertical, a.Vertical, b.Vertical)
			other, _ := impl.EnvelopeOf(b, a, "e1")
			expect(t, "EnvelopeOf in the other order", impl.SameAntenna(e, other), true)
		}
		same, _ := impl.EnvelopeOf(a, a, a.Name)
		expect(t, "EnvelopeOf an antenna and itself", impl.SameAntenna(same, a), true)
	}
	e, code := impl.EnvelopeOf(beam(15000, 60, 10), omni(10000), "e")
	expect(t, "EnvelopeOf a beam and an omni", []any{e.Name, e.Gain, e.Horizontal[:5], e.Horizontal[18], e.Vertical[7:12], code}, "[e 15000 [0 333 1333 3000 5000] 5000 [5000 5000 0 5000 5000] 0]")
	far, _ := impl.EnvelopeOf(jagged(60000, 60000), omni(-60000), "e")
	expect(t, "EnvelopeOf a much weaker antenna", impl.SameAntenna(far, impl.Antenna{Name: "e", Gain: 60000, Horizontal: jagged(0, 60000).Horizontal, Vertical: jagged(0, 60000).Vertical}), true)
}

func TestPromise7EnvelopesAreNowhereWeaker(t *testing.T) {
	for _, a := range antennas() {
		for _, b := range antennas() {
			e, _ := impl.EnvelopeOf(a, b, "e")
			for angle := range int64(360) {
				gain := value(impl.GainToward(e, 0, 0, angle, 0))
				if gain < value(impl.GainToward(a, 0, 0, angle, 0)) || gain < value(impl.GainToward(b, 0, 0, angle, 0)) {
					t.Errorf("the envelope of %v and %v is weaker at %d degrees", a, b, angle)
				}
			}
			for elevation := int64(-90); elevation <= 90; elevation++ {
				gain := value(impl.GainToward(e, 0, 0, 0, elevation))
				if gain < value(impl.GainToward(a, 0, 0, 0, elevation)) || gain < value(impl.GainToward(b, 0, 0, 0, elevation)) {
					t.Errorf("the envelope of %v and %v is weaker at the elevation %d", a, b, elevation)
				}
			}
		}
	}
}

func TestPromise7EnvelopesWithErrors(t *testing.T) {
	a := omni(0)
	for _, bad := range badAntennas() {
		one, code := impl.EnvelopeOf(bad, a, "e")
		expect(t, "EnvelopeOf a bad antenna", []any{one, code}, []any{impl.Antenna{}, impl.ErrInvalid})
		other, code := impl.EnvelopeOf(a, bad, "e")
		expect(t, "EnvelopeOf another bad antenna", []any{other, code}, []any{impl.Antenna{}, impl.ErrInvalid})
	}
	for _, name := range []string{"", "E", "1", "abcdefghijk"} {
		got, code := impl.EnvelopeOf(a, a, name)
		expect(t, "EnvelopeOf with a bad name", []any{got, code}, []any{impl.Antenna{}, impl.ErrInvalid})
	}
}

// slowWidth counts the directions of the main beam by the words of the document.
func slowWidth(a impl.Antenna) int64 {
	width := int64(0)
	for d := int64(-179); d <= 180; d++ {
		inBeam := true
		for between := min(d, 0); between <= max(d, 0); between++ {
			inBeam = inBeam && slowHorizontal(a, between) <= 3000
		}
		if inBeam {
			width++
		}
	}
	return width
}

func TestPromise7BeamWidths(t *testing.T) {
	list := antennas()
	for width := int64(1); width <= 360; width += 7 {
		list = append(list, beam(0, width, 10))
	}
	for _, loss := range []int64{3000, 3001, 60000} { // a loss behind, beside and on the last angle of both sides
		for _, i := range []int{1, 9, 17, 18, 19, 27, 35} {
			a := omni(0)
			a.Horizontal[i] = loss
			list = append(list, a)
		}
	}
	for _, a := range list {
		width, code := impl.BeamWidth(a)
		expect(t, "BeamWidth", []int64{width, code}, []int64{slowWidth(a), impl.OK})
	}
	right := omni(0) // only the directions from 0 to 180 are in the main beam
	for i := 19; i < 36; i++ {
		right.Horizontal[i] = 60000
	}
	left, _ := impl.MirrorAntenna(right) // the direction 180 is the last one on the right, so that it does not count on the left
	expect(t, "the widths of half circles", []int64{value(impl.BeamWidth(right)), value(impl.BeamWidth(left))}, "[181 180]")
	narrow := beam(0, 1, 1)
	narrow.Horizontal[18] = 0 // not in the main beam, because the directions between are not
	expect(t, "some widths", []int64{value(impl.BeamWidth(beam(15000, 60, 10))), value(impl.BeamWidth(omni(0))), value(impl.BeamWidth(narrow))}, "[61 360 3]")
	for _, bad := range badAntennas() {
		width, code := impl.BeamWidth(bad)
		expect(t, "BeamWidth of a bad antenna", []int64{width, code}, []int64{0, impl.ErrInvalid})
	}
}

func TestPromise7FrontToBack(t *testing.T) {
	for _, a := range antennas() {
		back, code := impl.FrontToBack(a)
		expect(t, "FrontToBack", []int64{back, code}, []int64{a.Horizontal[18], impl.OK})
		expect(t, "FrontToBack and the gain", a.Gain-back, value(impl.GainToward(a, 10, 0, 190, 0)))
	}
	expect(t, "FrontToBack of a beam", value(impl.FrontToBack(beam(15000, 60, 10))), 24000)
	for _, bad := range badAntennas() {
		back, code := impl.FrontToBack(bad)
		expect(t, "FrontToBack of a bad antenna", []int64{back, code}, []int64{0, impl.ErrInvalid})
	}
}

// antennaText joins what the document names.
func antennaText(a impl.Antenna) string {
	return strings.Join([]string{a.Name, impl.Decimal(a.Gain), impl.ListText(a.Horizontal), impl.ListText(a.Vertical)}, " ")
}

func TestPromise7TextsOfAntennas(t *testing.T) {
	for _, a := range antennas() {
		text := impl.AntennaText(a)
		expect(t, "AntennaText", text, antennaText(a))
		back, ok := impl.ReadAntenna(text)
		if !ok || !impl.SameAntenna(back, a) {
			t.Errorf("ReadAntenna(%q) = %v, %v", text, back, ok)
		}
	}
	for _, bad := range badAntennas() {
		expect(t, "AntennaText of a bad antenna", impl.AntennaText(bad), "")
		back, ok := impl.ReadAntenna(antennaText(bad))
		expect(t, "ReadAntenna of what would be the text of a bad antenna", []any{back, ok}, []any{impl.Antenna{}, false})
	}
	expect(t, "AntennaText of an omni", impl.AntennaText(omni(-2150)), "omni -2150 "+strings.Repeat("0,", 35)+"0 "+strings.Repeat("0,", 18)+"0")
}

// otherAntennaTexts are nearly texts of antennas.
func otherAntennaTexts() []string {
	text := impl.AntennaText(omni(-2150))
	return []string{
		"o 0 0,0 0", "o 0 - -", text + " ", " " + text, text + "\n", text + " 0", strings.Replace(text, " ", "  ", 1), strings.Replace(text, " ", "\t", 1),
		strings.Replace(text, "-2150", "+2150", 1), strings.Replace(text, "-2150", "-02150", 1), strings.Replace(text, "-2150", "", 1), strings.Replace(text, "-2150", "-2150.0", 1),
		strings.Replace(text, "-2150", "60001", 1), strings.Replace(text, "omni", "Omni", 1), strings.Replace(text, "0,0", "0,-0", 1), strings.Replace(text, "0,0", "0;0", 1),
		strings.Replace(text, "0,0", "0,x", 1), strings.Replace(text, " 0,", " 1,", 1), strings.TrimSuffix(text, ",0"), text + ",0", text[:len(text)-1], "omni -2150 " + strings.Repeat("0,", 36) + "0 " + strings.Repeat("0,", 17) + "0",
	}
}

func TestPromise7OtherTextsAreNotRead(t *testing.T) {
	for _, s := range append(otherAntennaTexts(), oddTexts...) {
		if a, ok := impl.ReadAntenna(s); ok || !impl.SameAntenna(a, impl.Antenna{}) {
			t.Errorf("ReadAntenna(%.60q) = %v, %v", s, a, ok)
		}
	}
}
