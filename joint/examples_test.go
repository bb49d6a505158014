package joint_test

import (
	"testing"

	"tontine/joint"
)

// The chapter's Examples 1 to 3.

func TestExample1(t *testing.T) {
	b, party := sample()
	want(t, "Alive", tellRatios(joint.Alive(b.Table, party, 1)), "1/50 13/50 18/25")
	want(t, "Least", tellRatio(joint.Least(b.Table, party, 1, 1)), "49/50")
	want(t, "Sums", tellRatios(joint.Sums(b.Table, party, 1)), "1/1 17/10 18/25")
}

func TestExample2(t *testing.T) {
	b, party := sample()
	wantAnnuity(t, "while both live", b, party, []int{0, 0, 1}, 2, true, "43/25")
	wantAnnuity(t, "while one lives", b, party, []int{0, 1, 1}, 2, true, "99/50")
}

func TestExample3(t *testing.T) {
	b, party := sample()
	want(t, "Assure of the first death", tellRatio(joint.Assure(b, party, 1, 1)), "7/25")
	want(t, "Assure of the second death", tellRatio(joint.Assure(b, party, 2, 1)), "1/50")
	want(t, "First of the place 0", tellRatio(joint.First(b, party, 0, 1)), "9/100")
	want(t, "First of the place 1", tellRatio(joint.First(b, party, 1, 1)), "19/100")
	want(t, "Behind", tellRatio(joint.Behind(b, party[0], party[1], 1)), "9/50")
}
