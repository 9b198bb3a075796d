"""Pictures: what all nets that say the same have in common, and the reasons for it."""

from arrowfind.errors import NoTie
from arrowfind.nets import net_made, refuse_strangers, sorted_rows
from arrowfind.sameness import corners_of, pairs_of, ties_of


def picture_of(net):
    return picture_by(net[0], ties_of(net), corners_of(net))


def net_within(picture):
    names, arrows, ties = picture
    return net_finished(names, list(arrows), ties)


# With the tail as the source of its island, every tie of the tail goes from it.
def net_with(picture, tail, head):
    names, arrows, ties = picture
    refuse_strangers(names, [tail, head])
    if (tail, head) not in ties and (head, tail) not in ties:
        raise NoTie(f"the picture has no tie between {tail!r} and {head!r}")
    fixed = arrows_from(ties, tail)
    return net_finished(names, list(arrows) + fixed, ties_left(ties, fixed))


def reasons_of(net):
    return reasons_by(net[0], ties_of(net), corners_of(net))


# Where both ways round are told, as no net does, neither stands, so that each tie is one of both.
def picture_by(names, ties, corners):
    told = [row[:2] for row in reasons_by(names, ties, corners)]
    arrows = [(tail, head) for tail, head in told if (head, tail) not in told]
    return (names, tuple(sorted_rows(names, arrows)), tuple(ties_left(ties, arrows)))


# Every name of an island is its source in some net, and the islands go each as it likes; the
# same holds of the islands within, which are left where the source of one is chosen.
def net_finished(names, arrows, ties):
    while ties:
        fixed = arrows_from(ties, ties[0][0])
        arrows = arrows + fixed
        ties = ties_left(ties, fixed)
    return net_made(names, arrows)


# The ties that go the same way wherever the source is the source of its island: its own ones go
# from it; and behind an arrow each tie goes on from its head, where the tail isn't tied to the
# tie's other name, for else the two would make a corner.
def arrows_from(ties, source):
    tied = both_ways(ties)
    fixed = {}
    waiting = [(start, end) for start, end in tied if start == source]
    while waiting:
        tail, head = waiting.pop()
        if (tail, head) not in fixed:
            fixed[(tail, head)] = True
            ends = [end for start, end in tied if start == head]
            waiting.extend([(head, end) for end in ends if end != tail and (tail, end) not in tied])
    return list(fixed)


def ties_left(ties, arrows):
    return [(one, other) for one, other in ties if (one, other) not in arrows and (other, one) not in arrows]


# Nothing but ties and corners is needed, so that answers can be reasoned about as nets are. An
# arrow is told whether or not the other way round was: a net never gives both, answers may.
def reasons_by(names, ties, corners):
    tied = both_ways(ties)
    bent = both_ways(corners)
    told = {}
    before = None
    while len(told) != before:
        before = len(told)
        for tail, head in tied:
            if (tail, head) not in told:
                rows = rows_for(tail, head, names, tied, bent, told)
                if rows:
                    told[(tail, head)] = rows[0]
    return list(told.values())


def rows_for(tail, head, names, tied, bent, told):
    rows = []
    for third in names:
        if (tail, head, third) in bent:
            rows.append((tail, head, "corner", (third,)))
        if (third, tail) in told and is_straight(third, tail, head, tied, bent):
            rows.append((tail, head, "on", (third,)))
        if (tail, third) in told and (third, head) in told:
            rows.append((tail, head, "over", (third,)))
    nears = [name for name in names if (name, head) in told and (name, tail) in tied]
    for third, fourth in pairs_of(nears):
        if is_straight(third, tail, fourth, tied, bent):
            rows.append((tail, head, "both", (third, fourth)))
    return rows


# Of a middle to which both are tied: the two are unlike and not tied, and yet make no corner.
def is_straight(one, middle, other, tied, bent):
    return one != other and (one, other) not in tied and (one, middle, other) not in bent


def both_ways(rows):
    kept = {}
    for row in rows:
        kept[row] = True
        kept[tuple(reversed(row))] = True
    return kept
