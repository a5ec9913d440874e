package vm

import "winnow/api"

// journal is out of what an Access is undone.
type journal struct {
	vars    [api.MaxVars]int // as they were
	changes []change
	before  *state // all as it was, in the place of changes that are too many
}

// few changes are kept whatever the state is.
const few = 1 << 12

// note keeps a change that was made. Where more were made than there are entries, all as it was takes less room than the changes: so no run, however long, keeps more than there was.
func (j *journal) note(s *state, c change) {
	if j.before != nil {
		return
	}
	j.changes = append(j.changes, c)
	if len(j.changes) > few+s.keys.Len() {
		before := s.twin()
		before.undo(j.changes)
		j.before, j.changes = &before, nil
	}
}

// undo brings back the state that was ahead of the run.
func (j *journal) undo(s *state) {
	if j.before != nil {
		*s = *j.before
	}
	s.undo(j.changes)
	s.vars = j.vars
}
