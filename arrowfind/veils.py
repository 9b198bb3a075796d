"""Veils: what a net says of the names that are left, where some are hidden and some held."""

from arrowfind.nets import names_above, names_along, refuse_wrong_asks
from arrowfind.partings import are_parted, names_up_to, spots_of, spots_walked
from arrowfind.roads import all_roads, meetings_of
from arrowfind.sameness import pairs_of

TAIL = "tail"
HEAD = "head"


def veil_of(net, hidden, held):
    names = names_left(net, hidden, held)
    joins = []
    for one, other in pairs_of(names):
        if are_joined(net, names, held, one, other):
            joins.append((one, other, end_at(net, held, one, other), end_at(net, held, other, one)))
    return (names, tuple(joins))


def join_paper(net, hidden, held, one, other):
    names = names_left(net, hidden, held)
    refuse_wrong_asks(names, [one, other])
    if are_joined(net, names, held, one, other):
        uppers = names_over(net, [one, other] + list(held))
        roads = [road for road in all_roads(net, one, other) if bears_join(net, road, hidden, uppers)]
        return ("road", roads[0])
    return ("list", list_between(net, names, held, one, other))


def parted_in(veil, one, other, some):
    return road_in(veil, one, other, some) is None


# The spots come by the length of the way to them, and a shortest way never comes to a name twice:
# it could go on the first time as it does the last time. Where that makes a meeting of the name,
# and it was none either time, the way left it downwards (for a join with a head at a name says
# that no held one is below the name, so that its joins with a tail there have a head beyond), and
# couldn't come back from below without a meeting, which has one of the list below it.
def road_in(veil, one, other, some):
    names, joins = veil
    refuse_wrong_asks(names, [one, other] + list(some))
    steps = steps_along(joins)
    opened = names_opened(names, steps, some)
    starts = [(end, at_end) for start, end, at_start, at_end in steps if start == one]
    before = spots_walked(starts, lambda spot: spots_behind(spot, steps, some, opened))
    ends = spots_of(other, before)
    return [one] + names_up_to(ends[0], before) if ends else None


def names_left(net, hidden, held):
    refuse_wrong_asks(net[0], list(hidden) + list(held))
    return tuple([name for name in net[0] if name not in hidden and name not in held])


# Where any list parts the two, this one does.
def are_joined(net, names, held, one, other):
    return not are_parted(net, one, other, list_between(net, names, held, one, other) + list(held))


def list_between(net, names, held, one, other):
    uppers = names_over(net, [one, other] + list(held))
    return [name for name in names if name in uppers and name not in (one, other)]


def names_over(net, some):
    uppers = []
    for name in some:
        uppers.extend(names_above(net, name))
    return uppers


def end_at(net, held, name, beyond):
    return TAIL if name in names_over(net, [beyond] + list(held)) else HEAD


def bears_join(net, road, hidden, uppers):
    meetings = meetings_of(net, road)
    return all([name in uppers if name in meetings else name in hidden for name in road[1:-1]])


# Each join both ways round, as (start, end, at_start, at_end).
def steps_along(joins):
    turned = [(other, one, at_other, at_one) for one, other, at_one, at_other in joins]
    return list(joins) + turned


# A meeting is open where one of the list is below it.
def names_opened(names, steps, some):
    ups = [(end, start) for start, end, at_start, at_end in steps if (at_start, at_end) == (TAIL, HEAD)]
    opened = []
    for name in some:
        opened.extend(names_along(names, ups, name))
    return opened


# A spot is a name with the end there of the join by which one came.
def spots_behind(spot, steps, some, opened):
    name, came_at = spot
    passes = name not in some
    meets = name in opened
    spots = []
    for start, end, at_start, at_end in steps:
        if start == name and (meets if came_at == HEAD and at_start == HEAD else passes):
            spots.append((end, at_end))
    return spots
