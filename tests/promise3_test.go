package tests

import (
	"fmt"
	"slices"
	"testing"

	"loop.example/g01393/impl"
)

// Promise 3: what is told net leads back to gross, to the cent, and what is
// withheld is what is due.

// isGross checks that gross is the least amount with the net.
func isGross(t *testing.T, s impl.Scale, net, round, gross int64) {
	t.Helper()
	told, ok := impl.NetOf(s, gross, round)
	if !ok || told != net {
		t.Fatalf("NetOf(%v, %d, %d): got %d %v, want %d, which led there", s, gross, round, told, ok, net)
	}
	if before, _ := impl.NetOf(s, max(0, gross-1), round); gross > 0 && before >= net {
		t.Fatalf("GrossOf(%v, %d, %d): got %d, but %d has the net %d", s, net, round, gross, gross-1, before)
	}
}

func TestPromise3NetsLeadBack(t *testing.T) {
	for _, s := range goodScales() {
		if takesWhole(s) {
			continue
		}
		for _, cents := range besideBreaks(s) {
			for round := range int64(4) {
				net, _ := impl.NetOf(s, cents, round)
				gross, ok := impl.GrossOf(s, net, round)
				if !ok || gross > cents {
					t.Fatalf("GrossOf(%v, %d, %d): got %d %v, but %d has this net", s, net, round, gross, ok, cents)
				}
				isGross(t, s, net, round, gross)
			}
		}
	}
}

// The least amounts are those that a search from 0 on finds, cent by cent.
func TestPromise3GrossByCounting(t *testing.T) {
	for _, s := range goodScales() {
		if takesWhole(s) {
			continue
		}
		for round := range int64(4) {
			first := map[int64]int64{}
			for cents := range int64(400) {
				net := cents - slowRound(slowDue(s, cents), round)
				if _, known := first[net]; !known {
					first[net] = cents
				}
			}
			for net, want := range first {
				got, ok := impl.GrossOf(s, net, round)
				if !ok || got != want {
					t.Fatalf("GrossOf(%v, %d, %d): got %d %v, want %d", s, net, round, got, ok, want)
				}
			}
		}
	}
}

// A cliff ends at the first amount that makes good what was lost.
func TestPromise3CliffsEnd(t *testing.T) {
	for _, s := range goodScales() {
		if takesWhole(s) {
			continue
		}
		for _, limit := range besideBreaks(s) {
			for i, full := range []int64{0, 1, 90, 5000} {
				round := (limit + int64(i)) % 4
				before, _ := impl.NetOf(s, limit, round)
				last, _ := impl.NetOf(s, impl.MaxCents, round)
				end, ok := impl.CliffEnd(s, full, limit, round)
				if ok != (limit < impl.MaxCents && last >= before+full) {
					t.Fatalf("CliffEnd(%v, %d, %d, %d): got %d %v", s, full, limit, round, end, ok)
				}
				if !ok {
					continue
				}
				net, _ := impl.NetOf(s, end, round)
				less, _ := impl.NetOf(s, end-1, round)
				if end <= limit || net < before+full || end > limit+1 && less >= before+full {
					t.Fatalf("CliffEnd(%v, %d, %d, %d): got %d, with the nets %d and %d after %d", s, full, limit, round, end, less, net, before)
				}
			}
		}
	}
}

// payLists returns lists of pays whose sums are amounts.
func payLists() [][]int64 {
	lists := [][]int64{{0}, {1}, {impl.MaxCents}, {0, 0, 0}, {400, 800}, {impl.MaxCents - 2, 1, 1}, slices.Repeat([]int64{1}, impl.MaxPays), slices.Repeat([]int64{impl.MaxCents / impl.MaxPays}, impl.MaxPays)}
	g := lcg(10)
	for range 30 {
		var pays []int64
		most := []uint64{4, 100, 50000, impl.MaxCents / impl.MaxPays}[g.next()%4]
		for range 1 + g.next()%impl.MaxPays {
			pays = append(pays, int64(g.next()%(most+1)))
		}
		lists = append(lists, pays)
	}
	return lists
}

func TestPromise3WithheldIsDue(t *testing.T) {
	for _, s := range goodScales() {
		for _, pays := range payLists() {
			for round := range int64(4) {
				isWithheld(t, s, pays, round)
			}
		}
	}
}

func isWithheld(t *testing.T, s impl.Scale, pays []int64, round int64) {
	t.Helper()
	what := fmt.Sprintf("(%v, %v, %d)", s, pays, round)
	held, ok := impl.WithholdSums(s, pays, round)
	if !ok || len(held) != len(pays) {
		t.Fatalf("WithholdSums%s: got %v %v", what, held, ok)
	}
	sum, taken := int64(0), int64(0)
	for i, part := range held {
		sum += pays[i]
		taken += part
		if part < 0 || taken != slowRound(slowDue(s, sum), round) {
			t.Fatalf("WithholdSums%s: got %v, which is not what is due after %d pays", what, held, i+1)
		}
	}
	years, rest, ok := impl.WithholdYears(s, pays, round)
	count := int64(len(pays))
	if ok != (slices.Max(pays)*count <= impl.MaxCents) || ok && len(years) != len(pays) {
		t.Fatalf("WithholdYears%s: got %v %d %v", what, years, rest, ok)
	}
	if !ok {
		return
	}
	for i, part := range years {
		rest += part
		if part != slowRound(slowDue(s, pays[i]*count), round)/count {
			t.Fatalf("WithholdYears%s: got %v", what, years)
		}
	}
	if rest != taken {
		t.Fatalf("WithholdYears%s: %d is withheld and settled, but %d is due", what, rest, taken)
	}
}
